/-
  Where a row is cut in two.
-/
import Derived.Test.YtmcmdpbdipgahaaHD
import Derived.Test.YtmcmdpbdipgahaaHC
import Derived.Lib.BitFns
import Derived.Deep.MidRow
namespace Go.Proofs.Ytmcmdpbdipgahaa
open Go.RowKit
/-- where n leaves are cut: the greatest power of two below n -/
def cutN (n : Nat) : Nat := 2 ^ (Lib.bitLen (n - 1) - 1)
theorem bitLen_pow : ∀ (j x : Nat), 2 ^ j ≤ x → x < 2 ^ (j + 1) → x < 2 ^ 64 → Lib.bitLen x = j + 1
  | 0, x, h0, h1, _ => by
    obtain rfl : x = 1 := by simp at h0 h1; omega
    rfl
  | j + 1, x, h0, h1, h2 => by
    have p1 : 2 ^ (j + 1) = 2 * 2 ^ j := by rw [Nat.pow_succ, Nat.mul_comm]
    have p2 : 2 ^ (j + 1 + 1) = 2 * 2 ^ (j + 1) := by rw [Nat.pow_succ, Nat.mul_comm]
    have hp := Nat.two_pow_pos j
    rw [Lib.bitLen_half x (by omega) h2, bitLen_pow j (x / 2) (by omega) (by omega) (by omega)]
    omega
theorem cutN_pow (j n : Nat) (h0 : 2 ^ j < n) (h1 : n ≤ 2 * 2 ^ j) (h2 : n ≤ 65536) : cutN n = 2 ^ j := by
  have p1 : 2 ^ (j + 1) = 2 * 2 ^ j := by rw [Nat.pow_succ, Nat.mul_comm]
  unfold cutN
  rw [bitLen_pow j (n - 1) (by omega) (by omega) (by omega), Nat.add_sub_cancel]
theorem pow_ex : ∀ (n : Nat), 2 ≤ n → ∃ j, 2 ^ j < n ∧ n ≤ 2 * 2 ^ j := by
  intro n hn
  induction n with
  | zero => omega
  | succ n ih =>
    by_cases h2 : n = 1
    · subst h2; exact ⟨0, by decide, by decide⟩
    · obtain ⟨j, a, b⟩ := ih (by omega)
      by_cases h : n + 1 ≤ 2 * 2 ^ j
      · exact ⟨j, by omega, h⟩
      · refine ⟨j + 1, ?_, ?_⟩
        · rw [Nat.pow_succ]; omega
        · rw [Nat.pow_succ]; omega
theorem cutN_lo (n : Nat) (hn : 2 ≤ n) (h : n ≤ 65536) : 1 ≤ cutN n ∧ cutN n < n ∧ n ≤ 2 * cutN n := by
  obtain ⟨j, a, b⟩ := pow_ex n hn
  rw [cutN_pow j n a b h]
  exact ⟨Nat.two_pow_pos j, a, b⟩
theorem bitLen_16 (n : Nat) (hn : 2 ≤ n) (h : n ≤ 65536) : 1 ≤ Lib.bitLen (n - 1) ∧ Lib.bitLen (n - 1) ≤ 17 := by
  obtain ⟨j, a, b⟩ := pow_ex n hn
  have p1 : 2 ^ (j + 1) = 2 * 2 ^ j := by rw [Nat.pow_succ, Nat.mul_comm]
  have hj : j < 16 := by
    have : 2 ^ j < 2 ^ 16 := by have : (2:Nat) ^ 16 = 65536 := rfl; omega
    exact (Nat.pow_lt_pow_iff_right (by decide)).1 this
  rw [bitLen_pow j (n - 1) (by omega) (by omega) (by omega)]
  omega
theorem ret_int {k : IntKind} {a b : Int} (h : a = b) : Ending.returned (.int k a) = .returned (.int k b) := by rw [h]
theorem pw17 : ∀ k : Fin 17, wrap64 ((2 : Int) ^ k.val) = ((2 ^ k.val : Nat) : Int) := by decide +kernel
set_option maxHeartbeats 1000000 in
theorem p20 (n : Nat) (w : World) (hn : 2 ≤ n) (h : n ≤ 65536) : Calls Try.prog 58 #[.int .i64 n] w fun e w' => e = .returned (.int .i64 (cutN n)) ∧ w' = w := by
  go_enter Try.func58, Try.ntmps58
  go_wp2
  go_loop [3] (fun v => ∃ k : Nat, v = .int .i64 k ∧ k < n ∧ 1 ≤ k ∧ ∃ j, k = 2 ^ j) (fun v => n - (intOf v).toNat)
  case atStart => exact ⟨1, rfl, by omega, by omega, 0, rfl⟩
  case round =>
    obtain ⟨k, rfl, hk, h1, hj⟩ := hrel
    have HJ := Lib.hid hj
    have HK1 : Hid (1 ≤ k) := h1
    clear hj
    have e1 : 2 * (k : Int) = ((2 * k : Nat) : Int) := by omega
    by_cases hlt : 2 * k < n
    · obtain ⟨m, hm⟩ : ∃ m, 2 * k = m := ⟨_, rfl⟩
      rw [hm] at e1 hlt
      have HM := Lib.hid hm
      have m0 : m ≤ 65536 := by omega
      have q1 : (m : Int) < (n : Int) := by omega
      clear hm hk h1
      go_wp2
      go_round
      case rel =>
        obtain ⟨j, hj⟩ := HJ.out
        exact ⟨m, rfl, hlt, by have := HM.out; have := HK1.out; omega, j + 1, by rw [← HM.out, hj, Nat.pow_succ, Nat.mul_comm]⟩
      case measure => have := HM.out; have := HK1.out; simp [intOf]; omega
    · have HC : Hid (cutN n = k) := by
        obtain ⟨j, hj⟩ := HJ.out
        show _ = _
        rw [hj]
        exact cutN_pow j n (by omega) (by omega) h
      obtain ⟨m, hm⟩ : ∃ m, 2 * k = m := ⟨_, rfl⟩
      rw [hm] at e1 hlt
      have m0 : m ≤ 131072 := by omega
      have q1 : ¬ (m : Int) < (n : Int) := by omega
      clear hm
      go_wp2
      go_ret
      exact ⟨ret_int (by rw [HC.out]), rfl⟩
end Go.Proofs.Ytmcmdpbdipgahaa

/-
  The root of a row, in words; a leaf's own.
-/
namespace Go.Proofs.Ytmcmdpbdipgahaa
open Go.RowKit
def oneM (p : Int) (x : List Int) : List Int := [p] ++ digs 8 4 ++ x
def leafH (x : List Int) : List Int := (sha (oneM 108 x)).take 8
def twoH (x y : List Int) : List Int := (sha (twoM 109 x y)).take 8
def rootF : Nat → List Int → List Int
  | 0, _ => zeros 8
  | f + 1, l => if l.length ≤ 8 then leafH l else twoH (rootF f (l.take (8 * cutN (l.length / 8)))) (rootF f (l.drop (8 * cutN (l.length / 8))))
theorem take8_len (m : List Int) : ((sha m).take 8).length = 8 := by rw [List.length_take, sha_len]; rfl
theorem rootF_len : ∀ (f : Nat) (l : List Int), (rootF f l).length = 8
  | 0, _ => zeros_len 8
  | f + 1, l => by
    rw [rootF]
    split
    · exact take8_len _
    · exact take8_len _
theorem rootF_one (f : Nat) (l : List Int) (h : l.length = 8 * 1) : rootF (f + 1) l = leafH l := by rw [rootF, if_pos (by omega)]
theorem rootF_two (f : Nat) (l : List Int) (n : Nat) (h : l.length = 8 * n) (hn : 2 ≤ n) : rootF (f + 1) l = twoH (rootF f (l.take (8 * cutN n))) (rootF f (l.drop (8 * cutN n))) := by
  rw [rootF, if_neg (by omega), h, Nat.mul_div_cancel_left n (by decide)]
theorem rootF_fuel : ∀ (f g : Nat) (l : List Int) (n : Nat), l.length = 8 * n → 1 ≤ n → n ≤ f → n ≤ g → n ≤ 65536 → rootF f l = rootF g l
  | 0, _, _, n, _, h1, h2, _, _ => by omega
  | _, 0, _, n, _, h1, _, h3, _ => by omega
  | f + 1, g + 1, l, n, hl, h1, h2, h3, h4 => by
    by_cases hn : n = 1
    · subst hn
      rw [rootF_one f l hl, rootF_one g l hl]
    · obtain ⟨c1, c2, _⟩ := cutN_lo n (by omega) h4
      rw [rootF_two f l n hl (by omega), rootF_two g l n hl (by omega)]
      rw [rootF_fuel f g _ (cutN n) (by rw [List.length_take]; omega) c1 (by omega) (by omega) (by omega)]
      rw [rootF_fuel f g _ (n - cutN n) (by rw [List.length_drop]; omega) (by omega) (by omega) (by omega) (by omega)]
theorem src_take {w : World} {A : Option Addr} {n : Nat} {l : List Int} (h : Src w A (8 * n) l) (k : Nat) (hk : k ≤ n) : Src w A (8 * k) (l.take (8 * k)) := by
  obtain ⟨hl, h2⟩ := h
  refine ⟨by rw [List.length_take]; omega, ?_⟩
  rcases h2 with h2 | ⟨g, o, h3, hc⟩
  · exact .inl (by omega)
  · refine .inr ⟨g, o, h3, fun i hi => ?_⟩
    rw [hc i (by omega)]
    simp [List.getD, hi]
theorem src_drop {w : World} {g o : Nat} {n : Nat} {l : List Int} (h : Src w (some ⟨g, o, none⟩) (8 * n) l) (k : Nat) (hk : k < n) : Src w (some ⟨g, o + k * 8, none⟩) (8 * (n - k)) (l.drop (8 * k)) := by
  obtain ⟨hl, h2⟩ := h
  refine ⟨by rw [List.length_drop]; omega, ?_⟩
  rcases h2 with h2 | ⟨g', o', h3, hc⟩
  · omega
  · cases h3
    refine .inr ⟨g, o + k * 8, rfl, fun i hi => ?_⟩
    rw [show o + k * 8 + i = o + (8 * k + i) by omega, hc (8 * k + i) (by omega)]
    simp [List.getD]
theorem msg_one (p : Int) (x : List Int) : msg p (fun _ => 8) (fun _ => x) 1 = oneM p x := by rw [msg1, msg0]; rfl
theorem oneM_len (p : Int) (x : List Int) (h : x.length = 8) : (oneM p x).length ≤ 400000 := by
  unfold oneM
  simp only [List.length_append, digs_len, h, List.length_singleton]
  omega
theorem twoM_len (p : Int) (x y : List Int) (h : x.length = 8) (h2 : y.length = 8) : (twoM p x y).length ≤ 400000 := by
  unfold twoM
  simp only [List.length_append, digs_len, h, h2, List.length_singleton]
  omega
theorem prts8 {w : World} {G : Nat} {A : Option Addr} {x : List Int} (h : w.heap[G]? = some (.cells #[.slice A 8 8] 106 (0, 0))) (hs : Src w A 8 x) : Prts w (some ⟨G, 0, none⟩) 1 (fun _ => A) (fun _ => 8) (fun _ => 8) (fun _ => x) := by
  refine ⟨.inr ⟨G, 0, rfl, fun i hi => ?_⟩, fun i hi => hs, fun i hi => ⟨by omega, by omega⟩⟩
  obtain rfl : i = 0 := by omega
  rw [cell_of_row w G (0 + 0) _ 106 (0, 0) h]
  rfl
attribute [local irreducible] ua da ba kk sw S8.run rt hs comp splice outB sha msg

end Go.Proofs.Ytmcmdpbdipgahaa

/-
  The root of a row: the program's.
-/
namespace Go.Proofs.Ytmcmdpbdipgahaa
open Go.RowKit
theorem src_range {w : World} {g o : Nat} {l : List Int} (h : Src w (some ⟨g, o, none⟩) (8 * 1) l) : w.rangeAt g o (bvals l) := by
  intro j v hj
  obtain ⟨hl, h2⟩ := h
  rcases h2 with h2 | ⟨g', o', h3, hc⟩
  · omega
  · cases h3
    simp only [bvals, List.getElem?_map, Option.map_eq_some_iff] at hj
    obtain ⟨z, hz, rfl⟩ := hj
    have hlt : j < l.length := (List.getElem?_eq_some_iff.1 hz).1
    rw [hc j (by omega)]
    simp [List.getD, hz]
theorem src_at {w : World} {A : Option Addr} {n : Nat} {l : List Int} (h : Src w A (8 * n) l) (hn : 1 ≤ n) : ∃ g o, A = some ⟨g, o, none⟩ := by
  rcases h.2 with h2 | ⟨g, o, h3, _⟩
  · omega
  · exact ⟨g, o, h3⟩
set_option maxRecDepth 100000 in
theorem sl_front (g o n cap k : Nat) (w : World) (hk : k ≤ cap) (h0 : 1 ≤ cap) : (Instr.slice 36 (.slice (some ⟨g, o, none⟩) n cap) none (some (.int .i64 k)) none).run Try.prog w = .ok (.slice (some ⟨g, o, none⟩) k cap) w := by
  rw [run_slice_h w 36 _ n cap Try.underlying36 .i64 k (by omega) (by omega)]
  have hs : (sizeOf (Try.prog.elem 36)).run Try.prog w = .ok 8 w := Try.sizeOf31 w
  rw [hs]
  simp only [Result.andThen, sliced, Int.toNat_natCast, Nat.sub_zero]
  rw [if_neg (by omega)]
  simp [Addr.add]
set_option maxRecDepth 100000 in
theorem sl_back (g o n cap k : Nat) (w : World) (hk : k ≤ n) (h0 : k < cap) : (Instr.slice 36 (.slice (some ⟨g, o, none⟩) n cap) (some (.int .i64 k)) none none).run Try.prog w = .ok (.slice (some ⟨g, o + k * 8, none⟩) (n - k) (cap - k)) w := by
  rw [run_slice_l w 36 _ n cap Try.underlying36 .i64 k (by omega) (by omega)]
  have hs : (sizeOf (Try.prog.elem 36)).run Try.prog w = .ok 8 w := Try.sizeOf31 w
  rw [hs]
  simp only [Result.andThen, sliced, Int.toNat_natCast]
  rw [if_neg (by omega)]
  simp [Addr.add]
theorem load8 {ops : Array Oper} {rest : List Oper} {op : Oper} {a : Act} {w : World} {Q : Exit → Act → World → Prop} (hgd : op.guard = none) (x : Operand) (ho : op.op = .load 31 x)
    (b o : Nat) (hx : a.eval x = .pointer (some ⟨b, o, none⟩)) (l : List Int) (hl : l.length = 8) (hc : w.rangeAt b o (bvals l))
    (h : wpList Try.prog ops Q rest (a.put op.dst (.agg (ba l))) w) : wpList Try.prog ops Q (op :: rest) a w :=
  wpList_load_mid hgd 31 x ho b o hx (bvals l) _ hc Try.underlying31 rfl (by rw [show (bvals l).length = 8 by simp [bvals, hl]]; exact s27) h
theorem leafH_len (x : List Int) : (leafH x).length = 8 := take8_len _
theorem twoH_len (x y : List Int) : (twoH x y).length = 8 := take8_len _
attribute [local irreducible] ua da ba kk sw S8.run rt hs comp splice outB sha msg rootF leafH twoH

end Go.Proofs.Ytmcmdpbdipgahaa
