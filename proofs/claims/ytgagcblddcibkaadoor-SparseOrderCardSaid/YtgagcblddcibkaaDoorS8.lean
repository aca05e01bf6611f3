/-
  Prove.
-/
import Derived.Test.YtgagcblddcibkaaDoorS7
import Derived.Deep.MidRow
import Derived.Laws.BitsAllLaws
namespace Go.Proofs.YtgagcblddcibkaaDoor
open Go.RowKit
open Go.Maps
def sib (q : Nat) : Nat := q ^^^ 1
theorem sib_div (q : Nat) : sib q / 2 = q / 2 := by unfold sib; rw [Nat.xor_div_two]; simp
theorem sib_even {q : Nat} (h : q % 2 = 0) : sib q = q + 1 := by
  have d := sib_div q
  have t : sib q % 2 = 1 := (@Nat.xor_mod_two_eq_one q 1).2 (by omega)
  omega
theorem sib_odd {q : Nat} (h : q % 2 = 1) : sib q = q - 1 := by
  have d := sib_div q
  have t : ¬ sib q % 2 = 1 := fun e => (@Nat.xor_mod_two_eq_one q 1).1 e (by omega)
  omega
theorem bx (q : Nat) (h : q < 65536) : bits .xor .i64 (q : Int) 1 = ((sib q : Nat) : Int) := by
  have hx : sib q < 65538 := by have := sib_div q; omega
  have e1 : (BitVec.ofInt 64 (q : Int)).toNat = q := ofInt_u64 q (by omega)
  show IntKind.i64.wrap ((BitVec.ofInt 64 (q : Int) ^^^ BitVec.ofInt 64 ((1 : Nat) : Int)).toNat : Int) = _
  rw [BitVec.toNat_xor, e1, ofInt_u64 1 (by omega)]
  rw [IntKind.wrap_i64]
  show _ = ((sib q : Nat) : Int)
  have e : q ^^^ 1 = sib q := rfl
  rw [e]
  omega
theorem sib_lt {q : Nat} (h : q < 65536) : sib q < 65536 := by
  rcases Nat.mod_two_eq_zero_or_one q with e | e
  · rw [sib_even e]; omega
  · rw [sib_odd e]; omega
/-- a proof, so far as s steps -/
def prfL (f : Int → List Int) (i : Nat) : Nat → List Int
  | 0 => []
  | s + 1 => prfL f i s ++ nd f s ((sib (i / 2 ^ s) : Nat) : Int)
theorem prfL_len (f : Int → List Int) (i : Nat) (hl : ∀ s, s < 16 → (nd f s ((sib (i / 2 ^ s) : Nat) : Int)).length = 8) : ∀ s, s ≤ 16 → (prfL f i s).length = 8 * s
  | 0, _ => rfl
  | s + 1, h => by
    show (prfL f i s ++ nd f s _).length = _
    rw [List.length_append, prfL_len f i hl s (by omega), hl s (by omega)]
    omega
/-- a list with some of its cells written -/
def splR : List Int → Nat → List Int → List Int
  | xs, _, [] => xs
  | xs, o, y :: r => splR (xs.set o y) (o + 1) r
theorem ba_setCells {b : Nat} {t : TypeId} : ∀ (ys : List Int) {w : World} {xs : List Int} (o : Nat), BA w b t xs → BA (w.setCells b o (bvals ys)) b t (splR xs o ys)
  | [], _, _, _, h => h
  | y :: r, _, _, o, h => ba_setCells r (o + 1) (ba_set h o y)
theorem splR_app : ∀ (ys A B : List Int), ys.length ≤ B.length → splR (A ++ B) A.length ys = A ++ (ys ++ B.drop ys.length)
  | [], A, B, _ => by simp [splR]
  | y :: r, A, b :: B, h => by
    show splR ((A ++ b :: B).set A.length y) (A.length + 1) r = _
    rw [List.set_append_right _ _ (Nat.le_refl _), Nat.sub_self, List.set_cons_zero]
    have := splR_app r (A ++ [y]) B (by simpa using h)
    simp only [List.append_assoc, List.singleton_append, List.length_append, List.length_singleton] at this
    rw [this]
    simp
theorem ba_toList (x : List Int) : (ba x).toList = bvals x := rfl
theorem zeros_drop (n m : Nat) : (zeros n).drop m = zeros (n - m) := by unfold zeros; rw [List.drop_replicate]
theorem heap_setCells {b q : Nat} (h : q ≠ b) : ∀ (vs : List Value) (w : World) (o : Nat), (w.setCells b o vs).heap[q]? = w.heap[q]?
  | [], _, _ => rfl
  | v :: r, w, o => (heap_setCells h r _ (o + 1)).trans (heap_setCell_other w ⟨b, o, none⟩ q v h)
theorem below_setCells {B b : Nat} (hb : B ≤ b) : ∀ (vs : List Value) {w w' : World} (o : Nat), Below B w w' → Below B w (w'.setCells b o vs)
  | [], _, _, _, h => h
  | _ :: r, _, _, o, h => below_setCells hb r (o + 1) (h.setCell hb _)
theorem z30 (w : World) : (zeroValue 30).run Tryd.prog w = .ok (.agg (ba (zeros 128))) w := by kernel_rfl
theorem s30 : (Tryd.prog.info? 30).map (·.size) = some 128 := by kernel_rfl
theorem results_cell_tmp {P : Program} {fn : Func} {p q : Tmp} {ty : TypeId} (h : fn.results = #[.cell p ty, .tmp q]) (tmps : Array Value) (w : World) (g : Nat) (t : TypeId) (cs : Array Value) (fr : Nat × Nat) (d : TypeDesc)
    (v : Value) (hp : tmps.getD p undef = .pointer (some ⟨g, 0, none⟩)) (hv : tmps.getD q undef = v) (hg : w.heap[g]? = some (.cells cs t fr))
    (hu : P.underlying ty = some d) (hd : (match d with | .struct _ | .array _ _ => true | _ => false) = true) (hi : (P.info? ty).map (·.size) = some cs.size) :
    (results fn tmps).run P w = .ok (.tuple #[.agg cs, v]) w := by
  subst hv
  have hp' : tmps[p]?.getD undef = .pointer (some ⟨g, 0, none⟩) := by simpa using hp
  simp [results, h, hp', asAddr, run_loadVar_row w g t ty cs fr d hg hu hd hi]
attribute [local irreducible] ua da ba kk sw S8.run rt hs comp splice outB sha msg twoM twoN ab MapIs mrow nd
set_option maxRecDepth 100000 in
set_option maxHeartbeats 4000000 in
theorem p10 (B T N i : Nat) (ms : Nat → Option Nat) (f : Int → List Int) (w : World) (hT : Tr w B T ms (nd f) N) (hi : i < 65536) :
    Calls Tryd.prog 10 #[.pointer (some ⟨T, 0, none⟩), .int .i64 i] w fun e w' => e = .returned (.tuple #[.agg (ba (prfL f i 16)), .bool true]) ∧ (prfL f i 16).length = 128 ∧ Below w.heap.size w w' := by
  have h4 := z30
  have HT := Lib.hid hT
  have HI : Hid (i < 65536) := hi
  obtain ⟨S, hS⟩ : ∃ S, w.heap.size = S := ⟨_, rfl⟩
  have HS := Lib.hid hS
  have R1 : Hid (BA (w.alloc (Obj.cells (ba (zeros 128)) 30)) S 30 (zeros 128)) := by subst hS; exact heap_alloc_last w _
  have V0 : Hid (BA ((w.alloc (Obj.cells (ba (zeros 128)) 30)).alloc (Obj.cells (ba (zeros 128)) 30)) (S + 1) 30 (zeros 128)) := by
    show _ = _
    subst hS
    have := heap_alloc_last (w.alloc (Obj.cells (ba (zeros 128)) 30)) (Obj.cells (ba (zeros 128)) 30)
    simp only [World.size_alloc] at this
    exact this
  have R0 : Hid (BA ((w.alloc (Obj.cells (ba (zeros 128)) 30)).alloc (Obj.cells (ba (zeros 128)) 30)) S 30 (zeros 128)) := (Below.heap_alloc _ _ _ (lt_of_block R1.out)).trans R1.out
  have B0 : Hid (Below S w ((w.alloc (Obj.cells (ba (zeros 128)) 30)).alloc (Obj.cells (ba (zeros 128)) 30))) := by subst hS; exact ((Below.refl _ w).alloc (Nat.le_refl _) _).alloc (by simp) _
  have C25 : Hid (∀ w, Calls Tryd.prog 25 #[.int .i64 i] w fun e w' => e = .returned (.bool true) ∧ w = w') := fun w => by
    have := p25 (i : Int) w
    rw [decide_eq_true (by omega), decide_eq_true (by omega)] at this
    exact this.mono fun _ _ h => ⟨h.1, h.2.symm⟩
  have SL : Hid (∀ s q : Nat, s < 17 → q < 65536 → (nd f s (q : Int)).length = 8) := fun s q hs hq => (HT.out.get s hs (k := (q : Int)) (wf_small (by omega) (by omega))).2
  have SD : Hid (∀ s : Nat, i / 2 ^ s < 65536) := fun s => Nat.lt_of_le_of_lt (Nat.div_le_self _ _) HI.out
  have PL : Hid (∀ s, s ≤ 16 → (prfL f i s).length = 8 * s) := prfL_len f i fun s hs => SL.out s _ (by omega) (sib_lt (SD.out s))
  have i0 : (0 : Int) ≤ (i : Int) := by omega
  have i1 : (i : Int) < 65536 := by omega
  obtain ⟨y, hy⟩ : ∃ y, prfL f i 16 = y := ⟨_, rfl⟩
  have HY := Lib.hid hy
  rw [hy]
  clear hT hi hy
  go_enter Tryd.func10, Tryd.ntmps10
  go_wp2_with (first
    | (go_at_call 25; refine (C25.out _).mono ?_; rintro e w1 ⟨rfl, rfl⟩)
    | fail)
  clear hS R1
  generalize (w.alloc (Obj.cells (ba (zeros 128)) 30)).alloc (Obj.cells (ba (zeros 128)) 30) = w0 at *
  go_loopw [16, 1, 7] (fun c q _ wr => ∃ s : Nat, s ≤ 16 ∧ c = .int .i64 s ∧ q = .int .i64 ((i / 2 ^ s : Nat) : Int) ∧ BA wr (S + 1) 30 (prfL f i s ++ zeros (128 - 8 * s)) ∧ BA wr S 30 (zeros 128) ∧ Below S w wr) (fun c _ _ _ => 16 - (intOf c).toNat)
  case atStart => exact ⟨0, by omega, rfl, by simp, V0.out, R0.out, B0.out⟩
  case round =>
    clear V0 R0 B0 C25
    obtain ⟨s, hs, rfl, rfl, hv, hr, hb⟩ := hrel
    have VR := Lib.hid hv
    have RR := Lib.hid hr
    have BR := Lib.hid hb
    clear hv hr hb
    by_cases hlt : s < 16
    · obtain ⟨q, hq⟩ : ∃ q, i / 2 ^ s = q := ⟨_, rfl⟩
      obtain ⟨p, hp⟩ : ∃ p, q / 2 = p := ⟨_, rfl⟩
      have hq6 : q < 65536 := by rw [← hq]; exact SD.out s
      have e1 : Int.tdiv (q : Int) 2 = (p : Int) := by rw [Int.tdiv_eq_ediv_of_nonneg (by omega)]; omega
      have e2 : (q : Int) / 2 = (p : Int) := by omega
      have TR : Hid (Tr wr B T ms (nd f) N) := HT.out.keep fun q hq => BR.out.block q (by rw [← HS.out]; exact hq)
      have c1 := TR.out.cell s (by omega)
      have s0 : (0 : Int) ≤ (s : Int) := by omega
      have s1 : (s : Int) < 16 := by omega
      have s2 : (s : Int) < 17 := by omega
      have HS16 : Hid (s < 16) := hlt
      have q0 : (0 : Int) ≤ (q : Int) := by omega
      have q6 : (q : Int) < 65536 := by omega
      have HQ : Hid (i / 2 ^ s / 2 = p) := by show _ = _; rw [hq]; exact hp
      have HQ2 : Hid (i / 2 ^ (s + 1) = p) := by show _ = _; rw [Nat.pow_succ, ← Nat.div_div_eq_div_mul]; exact HQ.out
      obtain ⟨g1, l1⟩ := TR.out.get s (by omega) (k := ((sib q : Nat) : Int)) (wf_small (by omega) (by have := sib_lt hq6; omega))
      have HP : Hid (prfL f i (s + 1) = prfL f i s ++ nd f s ((sib q : Nat) : Int)) := by show prfL f i s ++ nd f s _ = _; rw [hq]
      generalize nd f s ((sib q : Nat) : Int) = x at *
      have HL := Lib.hid l1
      have bq := bx q hq6
      rw [hq]
      clear hq hp hq6 hs hlt l1
      have TH : Hid (wr.there (S + 1) (s * 8) (ba x).size) := by
        intro j hj
        rw [ba_size, HL.out] at hj
        have hl : (prfL f i s ++ zeros (128 - 8 * s)).length = 128 := by rw [List.length_append, PL.out s (by have := HS16.out; omega), zeros_len]; have := HS16.out; omega
        exact ⟨by rw [ba_cell VR.out (s * 8 + j) (by rw [hl]; have := HS16.out; omega)]; rfl, free_of VR.out _⟩
      go_wp2_with (refine wpList_store_mid rfl 29 (.tmp 29) (.tmp 28) rfl (S + 1) (s * 8) (ba x) rfl rfl TH.out (sz s27 (by rw [ba_size, HL.out])) (ba_one _) ?_)
      rw [ba_toList]
      have VN : Hid (BA (wr.setCells (S + 1) (s * 8) (bvals x)) (S + 1) 30 (prfL f i (s + 1) ++ zeros (128 - 8 * (s + 1)))) := by
        have h1 := ba_setCells x (s * 8) VR.out
        have hA : s * 8 = (prfL f i s).length := by rw [PL.out s (by have := HS16.out; omega)]; omega
        rw [hA, splR_app x (prfL f i s) (zeros (128 - 8 * s)) (by rw [HL.out, zeros_len]; have := HS16.out; omega), zeros_drop, HL.out, ← List.append_assoc, ← HP.out, ← hA] at h1
        rw [show 128 - 8 * (s + 1) = 128 - 8 * s - 8 by omega]
        exact h1
      have RN : Hid (BA (wr.setCells (S + 1) (s * 8) (bvals x)) S 30 (zeros 128)) := (heap_setCells (by omega) _ _ _).trans RR.out
      have BN : Hid (Below S w (wr.setCells (S + 1) (s * 8) (bvals x))) := below_setCells (by omega) _ _ BR.out
      go_roundw
      case rel => exact ⟨s + 1, by have := HS16.out; omega, by go_num, by rw [HQ2.out], VN.out, RN.out, BN.out⟩
      case measure => have := HS16.out; simp [intOf]; omega
    · obtain rfl : s = 16 := by omega
      have VV : Hid (BA wr (S + 1) 30 y) := by
        have : BA wr (S + 1) 30 (prfL f i 16 ++ zeros 0) := VR.out
        rw [show prfL f i 16 ++ zeros 0 = prfL f i 16 by simp [zeros], HY.out] at this
        exact this
      have P16 : Hid (y.length = 128) := by rw [← HY.out]; exact PL.out 16 (by omega)
      clear VR PL SL SD
      go_wp2_with (first
        | (refine wpList_load_row rfl 30 (.tmp 6) rfl (S + 1) rfl 30 (ba y) (0, 0) _ VV.out Tryd.underlying30 rfl (sz s30 (by rw [ba_size, P16.out])) ?_)
        | (refine wpList_store_rowTo rfl 30 (.tmp 4) (.tmp 33) rfl rfl S (ba y) rfl rfl 30 (ba (zeros 128)) RR.out (sz s30 (by rw [ba_size, P16.out])) (by rw [ba_size, ba_size, P16.out, zeros_len]) (ba_one _) ?_))
      refine bodyPost_ret (v := .tuple #[.agg (ba y), .bool true]) (results_cell_tmp rfl _ _ S 30 _ (0, 0) _ _ rfl rfl (setRow_heap _ _ _ _ _ _ RR.out) Tryd.underlying30 rfl (sz s30 (by rw [ba_size, P16.out]))) rfl ⟨rfl, P16.out, ?_⟩
      rw [HS.out]
      exact below_setRow BR.out (by omega) _
set_option maxRecDepth 100000 in
set_option maxHeartbeats 4000000 in
theorem p10no (T : Nat) (i : Int) (w : World) (hno : ¬ (0 ≤ i ∧ i < 65536)) :
    Calls Tryd.prog 10 #[.pointer (some ⟨T, 0, none⟩), .int .i64 i] w fun e w' => e = .returned (.tuple #[.agg (ba (zeros 128)), .bool false]) ∧ Below w.heap.size w w' := by
  have h4 := z30
  obtain ⟨S, hS⟩ : ∃ S, w.heap.size = S := ⟨_, rfl⟩
  have HS := Lib.hid hS
  have R1 : Hid (BA (w.alloc (Obj.cells (ba (zeros 128)) 30)) S 30 (zeros 128)) := by subst hS; exact heap_alloc_last w _
  have V0 : Hid (BA ((w.alloc (Obj.cells (ba (zeros 128)) 30)).alloc (Obj.cells (ba (zeros 128)) 30)) (S + 1) 30 (zeros 128)) := by
    show _ = _
    subst hS
    have := heap_alloc_last (w.alloc (Obj.cells (ba (zeros 128)) 30)) (Obj.cells (ba (zeros 128)) 30)
    simp only [World.size_alloc] at this
    exact this
  have R0 : Hid (BA ((w.alloc (Obj.cells (ba (zeros 128)) 30)).alloc (Obj.cells (ba (zeros 128)) 30)) S 30 (zeros 128)) := (Below.heap_alloc _ _ _ (lt_of_block R1.out)).trans R1.out
  have B0 : Hid (Below S w ((w.alloc (Obj.cells (ba (zeros 128)) 30)).alloc (Obj.cells (ba (zeros 128)) 30))) := by subst hS; exact ((Below.refl _ w).alloc (Nat.le_refl _) _).alloc (by simp) _
  have C25 : Hid (∀ w, Calls Tryd.prog 25 #[.int .i64 i] w fun e w' => e = .returned (.bool false) ∧ w = w') := fun w => by
    have := p25 (i : Int) w
    have e : (decide (0 ≤ i) && decide (i < 65536)) = false := by simp; omega
    rw [e] at this
    exact this.mono fun _ _ h => ⟨h.1, h.2.symm⟩
  clear hno
  go_enter Tryd.func10, Tryd.ntmps10
  go_wp2_with (first
    | (go_at_call 25; refine (C25.out _).mono ?_; rintro e w1 ⟨rfl, rfl⟩)
    | (refine wpList_load_row rfl 30 (.tmp 6) rfl (S + 1) rfl 30 (ba (zeros 128)) (0, 0) _ V0.out Tryd.underlying30 rfl (sz s30 (by rw [ba_size, zeros_len])) ?_)
    | (refine wpList_store_rowTo rfl 30 (.tmp 4) (.tmp 15) rfl rfl S (ba (zeros 128)) rfl rfl 30 (ba (zeros 128)) R0.out (sz s30 (by rw [ba_size, zeros_len])) rfl (ba_one _) ?_)
    | fail)
  refine bodyPost_ret (v := .tuple #[.agg (ba (zeros 128)), .bool false]) (results_cell_tmp rfl _ _ S 30 _ (0, 0) _ _ rfl rfl (setRow_heap _ _ _ _ _ _ R0.out) Tryd.underlying30 rfl (sz s30 (by rw [ba_size, zeros_len]))) rfl ⟨rfl, ?_⟩
  rw [HS.out]
  exact below_setRow B0.out (by omega) _
end Go.Proofs.YtgagcblddcibkaaDoor
