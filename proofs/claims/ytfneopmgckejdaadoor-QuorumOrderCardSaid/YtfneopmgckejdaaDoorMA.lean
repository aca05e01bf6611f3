/-
  Where a row is cut in two.
-/
import Derived.Test.YtfneopmgckejdaaDoorHD
import Derived.Test.YtfneopmgckejdaaDoorHC
import Derived.Shelf.Small.Bits
import Derived.Deep.MidRow
namespace Go.Proofs.YtfneopmgckejdaaDoor
open Go.RowKit Go.Shelf
def lays125_ren : Go.Shelf.Ren := ⟨fun | 125 => 57 | 128 => 62 | 129 => 63 | n => n, fun | 3 => 3 | 4 => 4 | 5 => 5 | 9 => 9 | 46 => 38 | 51 => 85 | 53 => 89 | n => n, fun | n => n⟩
theorem lays125 : Go.Proofs.Lays.n125 Tryd.prog lays125_ren := {
  mixed := by kernel_rfl
  f125 := Tryd.func57.trans (congrArg some (by kernel_rfl))
  f128 := Tryd.func62.trans (congrArg some (by kernel_rfl))
  f129 := Tryd.func63.trans (congrArg some (by kernel_rfl))
  t3 := Tryd.underlying3
  a3 := Tryd.isAgg3
  z3 := Tryd.sizeOf3
  v3 := Tryd.zeroValue3
  t4 := Tryd.underlying4
  a4 := Tryd.isAgg4
  z4 := Tryd.sizeOf4
  v4 := Tryd.zeroValue4
  t5 := Tryd.underlying5
  a5 := Tryd.isAgg5
  z5 := Tryd.sizeOf5
  v5 := Tryd.zeroValue5
  t9 := Tryd.underlying9
  a9 := Tryd.isAgg9
  z9 := Tryd.sizeOf9
  v9 := Tryd.zeroValue9
  t46 := Tryd.underlying38
  a46 := Tryd.isAgg38
  z46 := Tryd.sizeOf38
  v46 := Tryd.zeroValue38
  t51 := Tryd.underlying85
  a51 := Tryd.isAgg85
  z51 := Tryd.sizeOf85
  v51 := Tryd.zeroValue85
  t53 := Tryd.underlying89
  a53 := Tryd.isAgg89
  z53 := Tryd.sizeOf89
  v53 := Tryd.zeroValue89 }
theorem bitsLen (x : Int) (w : World) (h0 : 0 ≤ x) (h1 : x ≤ 18446744073709551615) : Calls Tryd.prog 57 #[.int .u64 x] w fun e w' => e = .returned (.int .i64 (Lib.bitLen x.toNat)) ∧ w' = w := Any.bits_Len lays125 x w h0 h1
/-- where n leaves are cut: the greatest power of two below n -/
def cutN (n : Nat) : Nat := 2 ^ (Lib.bitLen (n - 1) - 1)
theorem bitLen_pow : ∀ (j x : Nat), 2 ^ j ≤ x → x < 2 ^ (j + 1) → x < 2 ^ 64 → Lib.bitLen x = j + 1
  | 0, x, h0, h1, _ => by
    obtain rfl : x = 1 := by simp at h0 h1; omega
    rfl
  | j + 1, x, h0, h1, h2 => by
    have p1 : 2 ^ (j + 1) = 2 * 2 ^ j := by rw [Nat.pow_succ, Nat.mul_comm]
    have p2 : 2 ^ (j + 1 + 1) = 2 * 2 ^ (j + 1) := by rw [Nat.pow_succ, Nat.mul_comm]
    have hp := Nat.two_pow_pos j
    rw [Lib.bitLen_half x (by omega) h2, bitLen_pow j (x / 2) (by omega) (by omega) (by omega)]
    omega
theorem cutN_pow (j n : Nat) (h0 : 2 ^ j < n) (h1 : n ≤ 2 * 2 ^ j) (h2 : n ≤ 65536) : cutN n = 2 ^ j := by
  have p1 : 2 ^ (j + 1) = 2 * 2 ^ j := by rw [Nat.pow_succ, Nat.mul_comm]
  unfold cutN
  rw [bitLen_pow j (n - 1) (by omega) (by omega) (by omega), Nat.add_sub_cancel]
theorem pow_ex : ∀ (n : Nat), 2 ≤ n → ∃ j, 2 ^ j < n ∧ n ≤ 2 * 2 ^ j := by
  intro n hn
  induction n with
  | zero => omega
  | succ n ih =>
    by_cases h2 : n = 1
    · subst h2; exact ⟨0, by decide, by decide⟩
    · obtain ⟨j, a, b⟩ := ih (by omega)
      by_cases h : n + 1 ≤ 2 * 2 ^ j
      · exact ⟨j, by omega, h⟩
      · refine ⟨j + 1, ?_, ?_⟩
        · rw [Nat.pow_succ]; omega
        · rw [Nat.pow_succ]; omega
theorem cutN_lo (n : Nat) (hn : 2 ≤ n) (h : n ≤ 65536) : 1 ≤ cutN n ∧ cutN n < n ∧ n ≤ 2 * cutN n := by
  obtain ⟨j, a, b⟩ := pow_ex n hn
  rw [cutN_pow j n a b h]
  exact ⟨Nat.two_pow_pos j, a, b⟩
theorem bitLen_16 (n : Nat) (hn : 2 ≤ n) (h : n ≤ 65536) : 1 ≤ Lib.bitLen (n - 1) ∧ Lib.bitLen (n - 1) ≤ 17 := by
  obtain ⟨j, a, b⟩ := pow_ex n hn
  have p1 : 2 ^ (j + 1) = 2 * 2 ^ j := by rw [Nat.pow_succ, Nat.mul_comm]
  have hj : j < 16 := by
    have : 2 ^ j < 2 ^ 16 := by have : (2:Nat) ^ 16 = 65536 := rfl; omega
    exact (Nat.pow_lt_pow_iff_right (by decide)).1 this
  rw [bitLen_pow j (n - 1) (by omega) (by omega) (by omega)]
  omega
theorem ret_int {k : IntKind} {a b : Int} (h : a = b) : Ending.returned (.int k a) = .returned (.int k b) := by rw [h]
theorem pw17 : ∀ k : Fin 17, wrap64 ((2 : Int) ^ k.val) = ((2 ^ k.val : Nat) : Int) := by decide +kernel
theorem p17 (n : Nat) (w : World) (hn : 2 ≤ n) (h : n ≤ 65536) : Calls Tryd.prog 51 #[.int .i64 n] w fun e w' => e = .returned (.int .i64 (cutN n)) ∧ w' = w := by
  obtain ⟨b0, b1⟩ := bitLen_16 n hn h
  obtain ⟨q, hq⟩ : ∃ q, n - 1 = q := ⟨_, rfl⟩
  have e1 : (n : Int) - 1 = (q : Int) := by omega
  have hc : cutN n = 2 ^ (Lib.bitLen q - 1) := by unfold cutN; rw [hq]
  rw [hc]
  rw [hq] at b0 b1
  have CL := Lib.hid (bitsLen (q : Int) w (by omega) (by omega))
  obtain ⟨k, hk⟩ : ∃ k, Lib.bitLen q = k + 1 := ⟨Lib.bitLen q - 1, by omega⟩
  have CQ : Hid (Calls Tryd.prog 57 #[.int .u64 (q : Int)] w fun e w' => e = .returned (.int .i64 ((k + 1 : Nat) : Int)) ∧ w' = w) := by
    have := CL.out
    rw [Int.toNat_natCast, hk] at this
    exact this
  rw [hk, Nat.add_sub_cancel]
  have hk16 : k ≤ 16 := by omega
  have e2 : ((k + 1 : Nat) : Int) - 1 = (k : Int) := by omega
  have k0 : (0 : Int) ≤ (k : Int) := by omega
  have k1 : (k : Int) ≤ 16 := by omega
  have HK : Hid (k < 17) := by show _ < _; omega
  clear hq hc CL hk b0 b1
  go_enter Tryd.func51, Tryd.ntmps51
  go_wp2_with (go_at_call 57; refine CQ.out.mono ?_; rintro e w' ⟨rfl, rfl⟩)
  go_ret
  exact ⟨ret_int (pw17 ⟨k, HK.out⟩), rfl⟩
set_option maxHeartbeats 1000000 in
theorem p20 (n : Nat) (w : World) (hn : 2 ≤ n) (h : n ≤ 65536) : Calls Tryd.prog 35 #[.int .i64 n] w fun e w' => e = .returned (.int .i64 (cutN n)) ∧ w' = w := by
  go_enter Tryd.func35, Tryd.ntmps35
  go_wp2
  go_loop [3] (fun v => ∃ k : Nat, v = .int .i64 k ∧ k < n ∧ 1 ≤ k ∧ ∃ j, k = 2 ^ j) (fun v => n - (intOf v).toNat)
  case atStart => exact ⟨1, rfl, by omega, by omega, 0, rfl⟩
  case round =>
    obtain ⟨k, rfl, hk, h1, hj⟩ := hrel
    have HJ := Lib.hid hj
    have HK1 : Hid (1 ≤ k) := h1
    clear hj
    have e1 : 2 * (k : Int) = ((2 * k : Nat) : Int) := by omega
    by_cases hlt : 2 * k < n
    · obtain ⟨m, hm⟩ : ∃ m, 2 * k = m := ⟨_, rfl⟩
      rw [hm] at e1 hlt
      have HM := Lib.hid hm
      have m0 : m ≤ 65536 := by omega
      have q1 : (m : Int) < (n : Int) := by omega
      clear hm hk h1
      go_wp2
      go_round
      case rel =>
        obtain ⟨j, hj⟩ := HJ.out
        exact ⟨m, rfl, hlt, by have := HM.out; have := HK1.out; omega, j + 1, by rw [← HM.out, hj, Nat.pow_succ, Nat.mul_comm]⟩
      case measure => have := HM.out; have := HK1.out; simp [intOf]; omega
    · have HC : Hid (cutN n = k) := by
        obtain ⟨j, hj⟩ := HJ.out
        show _ = _
        rw [hj]
        exact cutN_pow j n (by omega) (by omega) h
      obtain ⟨m, hm⟩ : ∃ m, 2 * k = m := ⟨_, rfl⟩
      rw [hm] at e1 hlt
      have m0 : m ≤ 131072 := by omega
      have q1 : ¬ (m : Int) < (n : Int) := by omega
      clear hm
      go_wp2
      go_ret
      exact ⟨ret_int (by rw [HC.out]), rfl⟩
set_option maxHeartbeats 1000000 in
/-- may: any two numbers -/
theorem p16 (i n : Int) (w : World) : Calls Tryd.prog 42 #[.int .i64 i, .int .i64 n] w fun e w' => e = .returned (.bool (decide (0 ≤ i) && (decide (i < n) && decide (n ≤ 65536)))) ∧ w' = w := by
  by_cases h1 : 0 ≤ i
  · by_cases h2 : i < n
    · by_cases h3 : n ≤ 65536
      · rw [decide_eq_true h1, decide_eq_true h2, decide_eq_true h3]
        go_enter Tryd.func42, Tryd.ntmps42
        go_wp2
        go_ret
        exact ⟨rfl, rfl⟩
      · rw [decide_eq_true h1, decide_eq_true h2, decide_eq_false h3]
        go_enter Tryd.func42, Tryd.ntmps42
        go_wp2
        go_ret
        exact ⟨rfl, rfl⟩
    · rw [decide_eq_true h1, decide_eq_false h2]
      go_enter Tryd.func42, Tryd.ntmps42
      go_wp2
      go_ret
      exact ⟨rfl, rfl⟩
  · rw [decide_eq_false h1]
    go_enter Tryd.func42, Tryd.ntmps42
    go_wp2
    go_ret
    exact ⟨rfl, rfl⟩
end Go.Proofs.YtfneopmgckejdaaDoor

/-
  The root of a row, in words; a leaf's own.
-/
namespace Go.Proofs.YtfneopmgckejdaaDoor
open Go.RowKit
def oneM (p : Int) (x : List Int) : List Int := [p] ++ digs 8 4 ++ x
def leafH (x : List Int) : List Int := (sha (oneM 108 x)).take 8
def twoH (x y : List Int) : List Int := (sha (twoM 109 x y)).take 8
def rootF : Nat → List Int → List Int
  | 0, _ => zeros 8
  | f + 1, l => if l.length ≤ 8 then leafH l else twoH (rootF f (l.take (8 * cutN (l.length / 8)))) (rootF f (l.drop (8 * cutN (l.length / 8))))
theorem take8_len (m : List Int) : ((sha m).take 8).length = 8 := by rw [List.length_take, sha_len]; rfl
theorem rootF_len : ∀ (f : Nat) (l : List Int), (rootF f l).length = 8
  | 0, _ => zeros_len 8
  | f + 1, l => by
    rw [rootF]
    split
    · exact take8_len _
    · exact take8_len _
theorem rootF_one (f : Nat) (l : List Int) (h : l.length = 8 * 1) : rootF (f + 1) l = leafH l := by rw [rootF, if_pos (by omega)]
theorem rootF_two (f : Nat) (l : List Int) (n : Nat) (h : l.length = 8 * n) (hn : 2 ≤ n) : rootF (f + 1) l = twoH (rootF f (l.take (8 * cutN n))) (rootF f (l.drop (8 * cutN n))) := by
  rw [rootF, if_neg (by omega), h, Nat.mul_div_cancel_left n (by decide)]
theorem rootF_fuel : ∀ (f g : Nat) (l : List Int) (n : Nat), l.length = 8 * n → 1 ≤ n → n ≤ f → n ≤ g → n ≤ 65536 → rootF f l = rootF g l
  | 0, _, _, n, _, h1, h2, _, _ => by omega
  | _, 0, _, n, _, h1, _, h3, _ => by omega
  | f + 1, g + 1, l, n, hl, h1, h2, h3, h4 => by
    by_cases hn : n = 1
    · subst hn
      rw [rootF_one f l hl, rootF_one g l hl]
    · obtain ⟨c1, c2, _⟩ := cutN_lo n (by omega) h4
      rw [rootF_two f l n hl (by omega), rootF_two g l n hl (by omega)]
      rw [rootF_fuel f g _ (cutN n) (by rw [List.length_take]; omega) c1 (by omega) (by omega) (by omega)]
      rw [rootF_fuel f g _ (n - cutN n) (by rw [List.length_drop]; omega) (by omega) (by omega) (by omega) (by omega)]
theorem src_take {w : World} {A : Option Addr} {n : Nat} {l : List Int} (h : Src w A (8 * n) l) (k : Nat) (hk : k ≤ n) : Src w A (8 * k) (l.take (8 * k)) := by
  obtain ⟨hl, h2⟩ := h
  refine ⟨by rw [List.length_take]; omega, ?_⟩
  rcases h2 with h2 | ⟨g, o, h3, hc⟩
  · exact .inl (by omega)
  · refine .inr ⟨g, o, h3, fun i hi => ?_⟩
    rw [hc i (by omega)]
    simp [List.getD, hi]
theorem src_drop {w : World} {g o : Nat} {n : Nat} {l : List Int} (h : Src w (some ⟨g, o, none⟩) (8 * n) l) (k : Nat) (hk : k < n) : Src w (some ⟨g, o + k * 8, none⟩) (8 * (n - k)) (l.drop (8 * k)) := by
  obtain ⟨hl, h2⟩ := h
  refine ⟨by rw [List.length_drop]; omega, ?_⟩
  rcases h2 with h2 | ⟨g', o', h3, hc⟩
  · omega
  · cases h3
    refine .inr ⟨g, o + k * 8, rfl, fun i hi => ?_⟩
    rw [show o + k * 8 + i = o + (8 * k + i) by omega, hc (8 * k + i) (by omega)]
    simp [List.getD]
theorem msg_one (p : Int) (x : List Int) : msg p (fun _ => 8) (fun _ => x) 1 = oneM p x := by rw [msg1, msg0]; rfl
theorem oneM_len (p : Int) (x : List Int) (h : x.length = 8) : (oneM p x).length ≤ 400000 := by
  unfold oneM
  simp only [List.length_append, digs_len, h, List.length_singleton]
  omega
theorem twoM_len (p : Int) (x y : List Int) (h : x.length = 8) (h2 : y.length = 8) : (twoM p x y).length ≤ 400000 := by
  unfold twoM
  simp only [List.length_append, digs_len, h, h2, List.length_singleton]
  omega
theorem prts8 {w : World} {G : Nat} {A : Option Addr} {x : List Int} (h : w.heap[G]? = some (.cells #[.slice A 8 8] 67 (0, 0))) (hs : Src w A 8 x) : Prts w (some ⟨G, 0, none⟩) 1 (fun _ => A) (fun _ => 8) (fun _ => 8) (fun _ => x) := by
  refine ⟨.inr ⟨G, 0, rfl, fun i hi => ?_⟩, fun i hi => hs, fun i hi => ⟨by omega, by omega⟩⟩
  obtain rfl : i = 0 := by omega
  rw [cell_of_row w G (0 + 0) _ 67 (0, 0) h]
  rfl
attribute [local irreducible] ua da ba kk sw S8.run rt hs comp splice outB sha msg
set_option maxRecDepth 100000 in
set_option maxHeartbeats 4000000 in
theorem p27 (x : List Int) (w : World) (hk : Keys w) (hx : x.length = 8) :
    Calls Tryd.prog 52 #[.agg (ba x)] w fun e w' => e = .returned (.agg (ba (leafH x))) ∧ Below w.heap.size w w' := by
  have h4 := z27
  have HK := Lib.hid hk
  have HX := Lib.hid hx
  have HP : Hid (0 < w.heap.size) := keys_pos hk
  clear hk hx
  obtain ⟨S, hS⟩ : ∃ S, w.heap.size = S := ⟨_, rfl⟩
  have T0 : Hid (BA (w.alloc (Obj.cells (ba x) 32)) S 32 x) := by subst hS; exact heap_alloc_last w _
  have T1 : Hid (BA ((w.alloc (Obj.cells (ba x) 32)).alloc (Obj.cells (ba (zeros 8)) 32)) (S + 1) 32 (zeros 8)) := by
    show _ = _
    subst hS
    have := heap_alloc_last (w.alloc (Obj.cells (ba x) 32)) (Obj.cells (ba (zeros 8)) 32)
    simp only [World.size_alloc] at this
    exact this
  have T2 : Hid (BA ((w.alloc (Obj.cells (ba x) 32)).alloc (Obj.cells (ba (zeros 8)) 32)) S 32 x) := (Below.heap_alloc _ _ _ (lt_of_block T0.out)).trans T0.out
  have B0 : Hid (Below S w ((w.alloc (Obj.cells (ba x) 32)).alloc (Obj.cells (ba (zeros 8)) 32))) := by subst hS; exact ((Below.refl _ w).alloc (Nat.le_refl _) _).alloc (by simp) _
  have HS := Lib.hid hS
  go_enter Tryd.func52, Tryd.ntmps52
  go_wp2_with (first
    | (go_at_call 54
       have hz : ((w.alloc (Obj.cells (ba x) 32)).alloc (Obj.cells (ba (zeros 8)) 32)).heap.size = S + 1 + 1 := by simp [hS]
       generalize hw0 : (w.alloc (Obj.cells (ba x) 32)).alloc (Obj.cells (ba (zeros 8)) 32) = w0 at *
       have LS : Hid (S + 1 < w0.heap.size) := lt_of_block T1.out
       have hG := heap_alloc_last w0 (Obj.cells #[.slice (some ⟨S, 0, none⟩) 8 8] 67)
       have BG : Hid (Below S w (w0.alloc (Obj.cells #[.slice (some ⟨S, 0, none⟩) 8 8] 67))) := B0.out.alloc (by have := LS.out; omega) _
       have T4 : Hid (BA (w0.alloc (Obj.cells #[.slice (some ⟨S, 0, none⟩) 8 8] 67)) S 32 x) := (Below.heap_alloc w0 _ S (by have := LS.out; omega)).trans T2.out
       have T5 : Hid (BA (w0.alloc (Obj.cells #[.slice (some ⟨S, 0, none⟩) 8 8] 67)) (S + 1) 32 (zeros 8)) := (Below.heap_alloc w0 _ _ LS.out).trans T1.out
       have KG : Keys (w0.alloc (Obj.cells #[.slice (some ⟨S, 0, none⟩) 8 8] 67)) := keys_below HK.out BG.out (by rw [← hS]; exact HP.out)
       have sx := src_ba (t := 32) T4.out 8 (by rw [HX.out]; omega)
       rw [List.take_of_length_le (by rw [HX.out]; omega)] at sx
       have C := c10 108 (some ⟨w0.heap.size, 0, none⟩) 1 1 _ _ _ _ _ KG (prts8 hG sx) (by rw [msg_one]; exact oneM_len 108 x HX.out)
       rw [msg_one, hz] at C
       refine C.mono ?_
       rintro e w1 ⟨rfl, hb⟩
       have T6 : Hid (BA w1 (S + 1) 32 (zeros 8)) := (hb.block _ (by simp; have := LS.out; omega)).trans T5.out
       have B1 : Hid (Below S w w1) := BG.out.trans (hb.mono (by simp; have := LS.out; omega))
       clear C KG sx hb hG hw0 hS hz)
    | (refine wpList_store_rowTo rfl 32 (.tmp 2) (.tmp 5) rfl rfl (S + 1) (ba ((sha (oneM 108 x)).take 8)) rfl rfl 32 (ba (zeros 8)) T6.out (sz s27 (by rw [ba_size, take8_len])) (by rw [ba_size, ba_size, take8_len]; rfl) (ba_one _) ?_)
    | fail)
  refine bodyPost_ret (v := .agg (ba ((sha (oneM 108 x)).take 8))) (results_cell_row rfl _ _ (S + 1) 32 _ (0, 0) _ rfl (setRow_heap _ _ _ _ _ _ T6.out) Tryd.underlying32 rfl (sz s27 (by rw [ba_size, take8_len]))) rfl ⟨rfl, ?_⟩
  rw [HS.out]
  exact below_setRow B1.out (by omega) _
end Go.Proofs.YtfneopmgckejdaaDoor

/-
  The root of a row: the program's.
-/
namespace Go.Proofs.YtfneopmgckejdaaDoor
open Go.RowKit
theorem src_range {w : World} {g o : Nat} {l : List Int} (h : Src w (some ⟨g, o, none⟩) (8 * 1) l) : w.rangeAt g o (bvals l) := by
  intro j v hj
  obtain ⟨hl, h2⟩ := h
  rcases h2 with h2 | ⟨g', o', h3, hc⟩
  · omega
  · cases h3
    simp only [bvals, List.getElem?_map, Option.map_eq_some_iff] at hj
    obtain ⟨z, hz, rfl⟩ := hj
    have hlt : j < l.length := (List.getElem?_eq_some_iff.1 hz).1
    rw [hc j (by omega)]
    simp [List.getD, hz]
theorem src_at {w : World} {A : Option Addr} {n : Nat} {l : List Int} (h : Src w A (8 * n) l) (hn : 1 ≤ n) : ∃ g o, A = some ⟨g, o, none⟩ := by
  rcases h.2 with h2 | ⟨g, o, h3, _⟩
  · omega
  · exact ⟨g, o, h3⟩
set_option maxRecDepth 100000 in
theorem sl_front (g o n cap k : Nat) (w : World) (hk : k ≤ cap) (h0 : 1 ≤ cap) : (Instr.slice 22 (.slice (some ⟨g, o, none⟩) n cap) none (some (.int .i64 k)) none).run Tryd.prog w = .ok (.slice (some ⟨g, o, none⟩) k cap) w := by
  rw [run_slice_h w 22 _ n cap Tryd.underlying22 .i64 k (by omega) (by omega)]
  have hs : (sizeOf (Tryd.prog.elem 22)).run Tryd.prog w = .ok 8 w := Tryd.sizeOf32 w
  rw [hs]
  simp only [Result.andThen, sliced, Int.toNat_natCast, Nat.sub_zero]
  rw [if_neg (by omega)]
  simp [Addr.add]
set_option maxRecDepth 100000 in
theorem sl_back (g o n cap k : Nat) (w : World) (hk : k ≤ n) (h0 : k < cap) : (Instr.slice 22 (.slice (some ⟨g, o, none⟩) n cap) (some (.int .i64 k)) none none).run Tryd.prog w = .ok (.slice (some ⟨g, o + k * 8, none⟩) (n - k) (cap - k)) w := by
  rw [run_slice_l w 22 _ n cap Tryd.underlying22 .i64 k (by omega) (by omega)]
  have hs : (sizeOf (Tryd.prog.elem 22)).run Tryd.prog w = .ok 8 w := Tryd.sizeOf32 w
  rw [hs]
  simp only [Result.andThen, sliced, Int.toNat_natCast]
  rw [if_neg (by omega)]
  simp [Addr.add]
theorem load8 {ops : Array Oper} {rest : List Oper} {op : Oper} {a : Act} {w : World} {Q : Exit → Act → World → Prop} (hgd : op.guard = none) (x : Operand) (ho : op.op = .load 32 x)
    (b o : Nat) (hx : a.eval x = .pointer (some ⟨b, o, none⟩)) (l : List Int) (hl : l.length = 8) (hc : w.rangeAt b o (bvals l))
    (h : wpList Tryd.prog ops Q rest (a.put op.dst (.agg (ba l))) w) : wpList Tryd.prog ops Q (op :: rest) a w :=
  wpList_load_mid hgd 32 x ho b o hx (bvals l) _ hc Tryd.underlying32 rfl (by rw [show (bvals l).length = 8 by simp [bvals, hl]]; exact s27) h
theorem leafH_len (x : List Int) : (leafH x).length = 8 := take8_len _
theorem twoH_len (x y : List Int) : (twoH x y).length = 8 := take8_len _
theorem two28 (x y : List Int) (w : World) (hk : Keys w) (hx : x.length = 8) (hy : y.length = 8) : Calls Tryd.prog 53 #[.int .u8 109, .agg (ba x), .agg (ba y)] w fun e w' => e = .returned (.agg (ba (twoH x y))) ∧ Below w.heap.size w w' := c14 109 x y w hk hx hy
attribute [local irreducible] ua da ba kk sw S8.run rt hs comp splice outB sha msg rootF leafH twoH
end Go.Proofs.YtfneopmgckejdaaDoor
