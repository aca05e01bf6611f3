/-
  Read.
-/
import Derived.Test.YtimhjofnaoljjaaDoorW21
import Derived.Laws.ResultCell
namespace Go.Proofs.YtimhjofnaoljjaaDoor
open Go.RowKit
/-- the value of a digit; -1: none -/
def dv (c : UInt8) : Int := Lib.indexByte hexD c
theorem dv_all : ∀ n : Fin 256, (-1 ≤ dv (UInt8.ofNat n.val) ∧ dv (UInt8.ofNat n.val) < 16) ∧ dv (UInt8.ofNat n.val) = (if 48 ≤ n.val ∧ n.val ≤ 57 then ((n.val : Nat) : Int) - 48 else if 97 ≤ n.val ∧ n.val ≤ 102 then ((n.val : Nat) : Int) - 87 else -1) := by decide +kernel
theorem dv_rng (c : UInt8) : -1 ≤ dv c ∧ dv c < 16 := by
  have := (dv_all ⟨c.toNat, c.toNat_lt⟩).1
  rw [UInt8.ofNat_toNat] at this
  exact this
theorem or16 (x y : Int) (x0 : 0 ≤ x) (x1 : x < 16) (y0 : 0 ≤ y) (y1 : y < 16) : bits .or .i64 (x * 16) y = 16 * x + y := by
  have h : ∀ a b : Fin 16, bits .or .i64 (((a.val : Nat) : Int) * 16) ((b.val : Nat) : Int) = 16 * ((a.val : Nat) : Int) + ((b.val : Nat) : Int) := by decide +kernel
  obtain ⟨a, rfl⟩ := Int.eq_ofNat_of_zero_le x0
  obtain ⟨b, rfl⟩ := Int.eq_ofNat_of_zero_le y0
  exact h ⟨a, by omega⟩ ⟨b, by omega⟩
theorem ib (c : UInt8) (w : World) : Calls Tryd.prog 26 #[.string ⟨#[48, 49, 50, 51, 52, 53, 54, 55, 56, 57, 97, 98, 99, 100, 101, 102]⟩, .int .u8 (c.toNat : Int)] w fun e w' => e = .returned (.int .i64 (dv c)) ∧ w = w' := by
  refine (indexByte ⟨#[48, 49, 50, 51, 52, 53, 54, 55, 56, 57, 97, 98, 99, 100, 101, 102]⟩ (c.toNat : Int) w).mono ?_
  rintro e w' ⟨rfl, rfl⟩
  refine ⟨?_, rfl⟩
  unfold dv
  rw [show ((c.toNat : Int)).toNat.toUInt8 = c by simp]
  rfl
/-- are the two digits at pair k digits? -/
def prB (l : List UInt8) (k : Nat) : Bool := decide (0 ≤ dv (l.getD (2 * k) 0)) && decide (0 ≤ dv (l.getD (2 * k + 1) 0))
def okU (l : List UInt8) : Nat → Bool
  | 0 => true
  | k + 1 => okU l k && prB l k
def rdB (l : List UInt8) (k : Nat) : Int := 16 * dv (l.getD (2 * k) 0) + dv (l.getD (2 * k + 1) 0)
def rdL (l : List UInt8) : Nat → List Int
  | 0 => []
  | k + 1 => rdL l k ++ [rdB l k]
theorem rdL_len (l : List UInt8) : ∀ k, (rdL l k).length = k
  | 0 => rfl
  | k + 1 => by rw [rdL, List.length_append, rdL_len l k]; rfl
theorem okU_le (l : List UInt8) {k n : Nat} (h : k ≤ n) (hn : okU l n = true) : okU l k = true := by
  induction n with
  | zero => obtain rfl : k = 0 := by omega
            exact hn
  | succ n ih =>
    by_cases e : k = n + 1
    · subst e; exact hn
    · rw [okU, Bool.and_eq_true] at hn
      exact ih (by omega) hn.1
/-- is it a text of a hash? -/
def okT (l : List UInt8) : Bool := decide (l.length = 16) && okU l 8
def rdV (l : List UInt8) : List Int := if okT l = true then rdL l 8 else zeros 8
theorem rdV_len (l : List UInt8) : (rdV l).length = 8 := by
  unfold rdV
  split
  · exact rdL_len l 8
  · exact zeros_len 8
theorem rdL1 (l : List UInt8) (k : Nat) : rdL l (k + 1) = rdL l k ++ [rdB l k] := rfl
theorem okU1 (l : List UInt8) (k : Nat) : okU l (k + 1) = (okU l k && prB l k) := rfl
theorem getD_str (s : ByteArray) (q : Nat) (h : q < s.size) : s.data.toList.getD q 0 = s[q] := by
  have h3 : q < s.data.toList.length := by simpa using h
  simp only [List.getD, List.getElem?_eq_getElem h3, Option.getD_some]
  rfl
theorem res2 {P : Program} {fn : Func} {p u : Tmp} {ty : TypeId} (h : fn.results = #[.cell p ty, .tmp u]) (tmps : Array Value) (w : World) (g : Nat) (t : TypeId) (cs : Array Value) (fr : Nat × Nat) (d : TypeDesc)
    (hp : tmps.getD p undef = .pointer (some ⟨g, 0, none⟩)) (hg : w.heap[g]? = some (.cells cs t fr))
    (hu : P.underlying ty = some d) (hd : (match d with | .struct _ | .array _ _ => true | _ => false) = true) (hi : (P.info? ty).map (·.size) = some cs.size) (b : Value) (hb : tmps.getD u undef = b) :
    (results fn tmps).run P w = .ok (.tuple #[.agg cs, b]) w := by
  rw [results_cell_tmp h, hp, hb]
  simp [asAddr, run_loadVar_row w g t ty cs fr d hg hu hd hi, Result.andThen]
theorem okT_bad (l : List UInt8) (k : Nat) (hk : k < 8) (h : prB l k = false) : okT l = false := by
  cases e : okT l with
  | false => rfl
  | true =>
    rw [okT, Bool.and_eq_true] at e
    have := okU_le l (show k + 1 ≤ 8 by omega) e.2
    rw [okU, h] at this
    simp at this
theorem rdV_bad {l : List UInt8} (h : okT l = false) : rdV l = zeros 8 := by unfold rdV; rw [if_neg (by rw [h]; decide)]
theorem rdV_ok {l : List UInt8} (h : okT l = true) : rdV l = rdL l 8 := by unfold rdV; rw [if_pos h]
theorem bt8 (w : World) : (Instr.build 27 #[]).run Tryd.prog w = .ok (.agg (ba (zeros 8))) w := by kernel_rfl
attribute [local irreducible] ba ua dv rdL rdV okT okU prB rdB
set_option maxRecDepth 100000 in
set_option maxHeartbeats 2000000 in
theorem c11 (s : ByteArray) (l : List UInt8) (w : World) (hl : s.data.toList = l) :
    Calls Tryd.prog 11 #[.string s] w fun e w' => e = .returned (.tuple #[.agg (ba (rdV l)), .bool (okT l)]) ∧ Below w.heap.size w w' := by
  have HL := Lib.hid hl
  have hsz : l.length = s.size := by rw [← hl]; simp
  have HSZ := Lib.hid hsz
  have hb8 := bt8
  have h27 := z27
  clear hl hsz
  obtain ⟨S, hS⟩ : ∃ S, w.heap.size = S := ⟨_, rfl⟩
  have T0 : Hid (BA (w.alloc (Obj.cells (ba (zeros 8)) 27)) S 27 (zeros 8)) := by subst hS; exact heap_alloc_last w _
  have T1 : Hid (BA ((w.alloc (Obj.cells (ba (zeros 8)) 27)).alloc (Obj.cells (ba (zeros 8)) 27)) (S + 1) 27 (zeros 8)) := by
    subst hS
    have := heap_alloc_last (w.alloc (Obj.cells (ba (zeros 8)) 27)) (Obj.cells (ba (zeros 8)) 27)
    simp only [World.size_alloc] at this
    exact this
  have T2 : Hid (BA ((w.alloc (Obj.cells (ba (zeros 8)) 27)).alloc (Obj.cells (ba (zeros 8)) 27)) S 27 (zeros 8)) := (Below.heap_alloc _ _ _ (lt_of_block T0.out)).trans T0.out
  have B0 : Hid (Below S w ((w.alloc (Obj.cells (ba (zeros 8)) 27)).alloc (Obj.cells (ba (zeros 8)) 27))) := by subst hS; exact ((Below.refl _ w).alloc (Nat.le_refl _) _).alloc (by simp) _
  have HS := Lib.hid hS
  by_cases h16 : s.size = 16
  · have HL16 : Hid (l.length = 16) := by show _ = _; rw [HSZ.out, h16]
    go_enter Tryd.func11, Tryd.ntmps11
    go_wp2_with fail
    generalize (w.alloc (Obj.cells (ba (zeros 8)) 27)).alloc (Obj.cells (ba (zeros 8)) 27) = w0 at *
    clear T0 hS
    go_loopw [12, 5, 6, 7] (fun i _ _ _ wr => ∃ k : Nat, k ≤ 8 ∧ i = .int .i64 k ∧ okU l k = true ∧ BA wr S 27 (zeros 8) ∧ BA wr (S + 1) 27 (rdL l k ++ zeros (8 - k)) ∧ Below S w wr) (fun i _ _ _ _ => 8 - (intOf i).toNat)
    case atStart => exact ⟨0, by omega, rfl, by unfold okU; rfl, T2.out, by unfold rdL; exact T1.out, B0.out⟩
    case round =>
      clear T1 T2 B0
      obtain ⟨k, hk, rfl, hok, hR, hU, hbel⟩ := hrel
      have HOK := Lib.hid hok
      have RR := Lib.hid hR
      have UU := Lib.hid hU
      have BB := Lib.hid hbel
      clear hok hR hU hbel
      by_cases hlt : k < 8
      · obtain ⟨a, ha⟩ : ∃ a, l.getD (2 * k) 0 = a := ⟨_, rfl⟩
        obtain ⟨b, hb⟩ : ∃ b, l.getD (2 * k + 1) 0 = b := ⟨_, rfl⟩
        obtain ⟨p, hp⟩ : ∃ p, 2 * k = p := ⟨_, rfl⟩
        obtain ⟨p1, hp1⟩ : ∃ p1, 2 * k + 1 = p1 := ⟨_, rfl⟩
        have hix : ∀ (q : Nat) (c : UInt8), q < 16 → l.getD q 0 = c → ∀ w, (Instr.index 9 (.string s) (.int .i64 (q : Int))).run Tryd.prog w = .ok (.int .u8 (c.toNat : Int)) w := by
          intro q c hq hc w
          rw [run_index_string w 9 s .i64 q Tryd.underlying9, dif_pos (by omega)]
          have : s[((q : Int)).toNat]'(by omega) = c := by
            rw [← hc, ← HL.out]
            exact (getD_str s q (by omega)).symm
          rw [this]
        have i0 := hix p a (by omega) (by rw [← hp]; exact ha)
        have i1 := hix p1 b (by omega) (by rw [← hp1]; exact hb)
        have HPR : Hid (prB l k = (decide (0 ≤ dv a) && decide (0 ≤ dv b))) := by show _ = _; unfold prB; rw [ha, hb]
        have HRD : Hid (rdB l k = 16 * dv a + dv b) := by show _ = _; unfold rdB; rw [ha, hb]
        have e0 : 2 * (k : Int) = (p : Int) := by omega
        have e1 : (p : Int) + 1 = (p1 : Int) := by omega
        have v0 : IntKind.i64.wrap (p : Int) = p := by rw [IntKind.wrap_i64]; omega
        have v1 : IntKind.i64.wrap (p1 : Int) = p1 := by rw [IntKind.wrap_i64]; omega
        have cA := ib a
        have cB := ib b
        obtain ⟨a0, a1⟩ := dv_rng a
        obtain ⟨b0, b1⟩ := dv_rng b
        clear ha hb hp hp1 hix
        generalize dv a = x at *
        generalize dv b = y at *
        generalize (a.toNat : Int) = ac at *
        generalize (b.toNat : Int) = bc at *
        have CA := Lib.hid cA
        have CB := Lib.hid cB
        clear cA cB
        have c0 := ba_cell UU.out k (by rw [List.length_append, rdL_len, zeros_len]; omega)
        have f0 := free_of UU.out k
        by_cases hx : 0 ≤ x
        · by_cases hy : 0 ≤ y
          · have hor : bits .or .i64 (x * 16) y % 256 = 16 * x + y := by rw [or16 x y hx a1 hy b1]; omega
            obtain ⟨z, hz⟩ : ∃ z, 16 * x + y = z := ⟨_, rfl⟩
            have HZ := Lib.hid hz
            rw [hz] at hor
            have N1 : Hid (BA (wr.setCell ⟨S + 1, k, none⟩ (.int .u8 z)) (S + 1) 27 (rdL l (k + 1) ++ zeros (8 - (k + 1)))) := by
              have := ba_set UU.out k z
              rw [set_pad _ _ _ _ (rdL_len l k) (by omega)] at this
              show BA _ _ _ _
              rw [rdL1, HRD.out, HZ.out]
              exact this
            have N2 : Hid (BA (wr.setCell ⟨S + 1, k, none⟩ (.int .u8 z)) S 27 (zeros 8)) := heap_else k _ (by omega) RR.out
            have N3 : Hid (Below S w (wr.setCell ⟨S + 1, k, none⟩ (.int .u8 z))) := BB.out.setCell (by show S ≤ S + 1; omega) _
            have N4 : Hid (okU l (k + 1) = true) := by
              show _ = _
              rw [okU1, HOK.out, HPR.out, decide_eq_true hx, decide_eq_true hy]
              rfl
            clear hz RR UU BB HOK
            go_wp2_with (first | (go_at_call 26; refine (CA.out _).mono ?_; rintro e w' ⟨rfl, rfl⟩) | (go_at_call 26; refine (CB.out _).mono ?_; rintro e w' ⟨rfl, rfl⟩))
            go_roundw
            case rel => exact ⟨k + 1, by omega, by go_num, N4.out, N2.out, N1.out, N3.out⟩
            case measure => simp [intOf]; omega
          · have hbad : okT l = false := okT_bad l k hlt (by rw [HPR.out, decide_eq_false hy]; simp)
            have HBAD := Lib.hid hbad
            clear hbad c0 f0
            go_wp2_with (first | (go_at_call 26; refine (CA.out _).mono ?_; rintro e w' ⟨rfl, rfl⟩) | (go_at_call 26; refine (CB.out _).mono ?_; rintro e w' ⟨rfl, rfl⟩) | (refine wpList_store_rowTo rfl 27 (.tmp 2) (.tmp 32) rfl rfl S (ba (zeros 8)) rfl rfl 27 (ba (zeros 8)) RR.out (sz s27 (by rw [ba_size]; rfl)) rfl (ba_one _) ?_))
            exact bodyPost_ret (v := .tuple #[.agg (ba (zeros 8)), .bool false]) (res2 rfl _ _ S 27 _ (0, 0) _ rfl (setRow_heap _ _ _ _ _ _ RR.out) Tryd.underlying27 rfl (sz s27 (by rw [ba_size]; rfl)) (.bool false) rfl) rfl ⟨by rw [rdV_bad HBAD.out, HBAD.out], by rw [HS.out]; exact below_setRow BB.out (Nat.le_refl _) _⟩
        · have hbad : okT l = false := okT_bad l k hlt (by rw [HPR.out, decide_eq_false hx]; simp)
          have HBAD := Lib.hid hbad
          clear hbad c0 f0
          go_wp2_with (first | (go_at_call 26; refine (CA.out _).mono ?_; rintro e w' ⟨rfl, rfl⟩) | (go_at_call 26; refine (CB.out _).mono ?_; rintro e w' ⟨rfl, rfl⟩) | (refine wpList_store_rowTo rfl 27 (.tmp 2) (.tmp 32) rfl rfl S (ba (zeros 8)) rfl rfl 27 (ba (zeros 8)) RR.out (sz s27 (by rw [ba_size]; rfl)) rfl (ba_one _) ?_))
          exact bodyPost_ret (v := .tuple #[.agg (ba (zeros 8)), .bool false]) (res2 rfl _ _ S 27 _ (0, 0) _ rfl (setRow_heap _ _ _ _ _ _ RR.out) Tryd.underlying27 rfl (sz s27 (by rw [ba_size]; rfl)) (.bool false) rfl) rfl ⟨by rw [rdV_bad HBAD.out, HBAD.out], by rw [HS.out]; exact below_setRow BB.out (Nat.le_refl _) _⟩
      · obtain rfl : k = 8 := by omega
        have HOT : Hid (okT l = true) := by
          show _ = _
          unfold okT
          rw [HOK.out, decide_eq_true HL16.out]
          rfl
        have UE : Hid (BA wr (S + 1) 27 (rdL l 8)) := by
          have : BA wr (S + 1) 27 (rdL l 8 ++ zeros 0) := UU.out
          rw [show rdL l 8 ++ zeros 0 = rdL l 8 by simp [zeros]] at this
          exact this
        clear UU HOK
        go_wp2_with (first
          | (refine wpList_load_row rfl 27 (.tmp 4) rfl (S + 1) rfl 27 (ba (rdL l 8)) (0, 0) _ UE.out Tryd.underlying27 rfl (sz s27 (by rw [ba_size, rdL_len])) ?_)
          | (refine wpList_store_rowTo rfl 27 (.tmp 2) (.tmp 41) rfl rfl S (ba (rdL l 8)) rfl rfl 27 (ba (zeros 8)) RR.out (sz s27 (by rw [ba_size, rdL_len])) (by rw [ba_size, ba_size, rdL_len]; rfl) (ba_one _) ?_))
        exact bodyPost_ret (v := .tuple #[.agg (ba (rdL l 8)), .bool true]) (res2 rfl _ _ S 27 _ (0, 0) _ rfl (setRow_heap _ _ _ _ _ _ RR.out) Tryd.underlying27 rfl (sz s27 (by rw [ba_size, rdL_len])) (.bool true) rfl) rfl ⟨by rw [rdV_ok HOT.out, HOT.out], by rw [HS.out]; exact below_setRow BB.out (Nat.le_refl _) _⟩
  · have hbad : okT l = false := by
      have : ¬ l.length = 16 := by rw [HSZ.out]; exact h16
      unfold okT
      rw [decide_eq_false this]
      rfl
    have HBAD := Lib.hid hbad
    have RR := T2
    have BB := B0
    have hn : ¬ (s.size : Int) = 16 := by omega
    clear hbad h16
    go_enter Tryd.func11, Tryd.ntmps11
    go_wp2_with (refine wpList_store_rowTo rfl 27 (.tmp 2) (.tmp 11) rfl rfl S (ba (zeros 8)) rfl rfl 27 (ba (zeros 8)) RR.out (sz s27 (by rw [ba_size]; rfl)) rfl (ba_one _) ?_)
    exact bodyPost_ret (v := .tuple #[.agg (ba (zeros 8)), .bool false]) (res2 rfl _ _ S 27 _ (0, 0) _ rfl (setRow_heap _ _ _ _ _ _ RR.out) Tryd.underlying27 rfl (sz s27 (by rw [ba_size]; rfl)) (.bool false) rfl) rfl ⟨by rw [rdV_bad HBAD.out, HBAD.out], by rw [HS.out]; exact below_setRow BB.out (Nat.le_refl _) _⟩
end Go.Proofs.YtimhjofnaoljjaaDoor
