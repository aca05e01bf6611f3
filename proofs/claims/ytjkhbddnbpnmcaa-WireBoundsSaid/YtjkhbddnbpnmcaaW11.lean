/-
  Few; the law's own 'plain': the bytes of one piece.
-/
import Derived.Test.YtjkhbddnbpnmcaaW10
namespace Go.Proofs.Ytjkhbddnbpnmcaa
open Go.RowKit
attribute [local go_sem ↓] Go.wp_at_zero Go.wp_at_succ

def tot (P : Nat → Prt) : Nat → Nat
  | 0 => 0
  | k + 1 => tot P k + 12 + (P k).len
theorem tot_bound (P : Nat → Prt) (len k : Nat) (hk : k ≤ len) (hs : ∀ i, i < len → (P i).len ≤ 140737488355328) : tot P k ≤ k * 140737488355340 := by
  induction k with
  | zero => simp [tot]
  | succ k ih =>
    have := hs k (by omega)
    have := ih (by omega)
    rw [tot]; omega
def fewB (len : Nat) (P : Nat → Prt) : Bool := decide (len ≤ 100) && decide (tot P len ≤ 20000)

set_option maxHeartbeats 1000000 in
theorem c9 (A : Option Addr) (len cap : Nat) (P : Nat → Prt) (w : World) (hm : len ≤ 140737488355328) (hp : Parts w A len P) (hs : ∀ i, i < len → (P i).len ≤ 140737488355328) :
    Calls Try.prog 9 #[.slice A len cap] w fun e w' => e = .returned (.bool (fewB len P)) ∧ w = w' := by
  have HP := Lib.hid hp
  have HS := Lib.hid hs
  clear hp hs
  by_cases h100 : len ≤ 100
  · have hf : fewB len P = decide (tot P len ≤ 20000) := by unfold fewB; simp [h100]
    rw [hf]
    clear hf
    go_enter Try.func9, Try.ntmps9
    go_wp2
    go_loop [3, 4] (fun n i => ∃ k : Nat, ∃ z : Nat, k ≤ len ∧ i = .int .i64 k ∧ n = .int .i64 z ∧ z = tot P k ∧ z ≤ k * 140737488355340) (fun _ i => len - (intOf i).toNat)
    case atStart => exact ⟨0, 0, Nat.zero_le _, rfl, rfl, rfl, by omega⟩
    case round =>
      obtain ⟨k, z, hk, rfl, rfl, hz, hzb⟩ := hrel
      have HZ := Lib.hid hz
      clear hz
      by_cases hlt : k < len
      · obtain ⟨b, off, rfl, hP⟩ : ∃ b off, A = some ⟨b, off, none⟩ ∧ PAt w b (off + k * 11) (P k) := by
          rcases HP.out with h | ⟨b, off, e, h⟩
          · omega
          · exact ⟨b, off, e, h k hlt⟩
        have gb := hP.cb
        have hb1 : (0 : Int) ≤ (k : Int) := by omega
        have hb2 : (k : Int) < (len : Int) := by omega
        have hl := HS.out k hlt
        have TS : Hid (tot P (k + 1) = z + 12 + (P k).len) := by show tot P (k + 1) = _; rw [tot, HZ.out]
        clear hP
        generalize (P k).A = pa at *
        generalize (P k).len = pl at *
        generalize (P k).cap = pc at *
        go_wp2
        go_round
        case rel => exact ⟨k + 1, z + 12 + pl, by omega, by go_num, by go_num, TS.out.symm, by omega⟩
        case measure => simp [intOf]; omega
      · obtain rfl : k = len := by omega
        have D : Hid (decide (tot P k ≤ 20000) = decide ((z : Int) ≤ 20000)) := by
          show decide (tot P k ≤ 20000) = decide ((z : Int) ≤ 20000)
          rw [← HZ.out]
          exact decide_eq_decide.mpr (by omega)
        go_wp2
        go_ret
        exact ⟨by rw [D.out] <;> rfl, rfl⟩
  · have hf : fewB len P = false := by unfold fewB; simp [h100]
    rw [hf]
    clear hf
    go_enter Try.func9, Try.ntmps9
    go_wp2
    go_loop [3, 4] (fun n i => ∃ k : Nat, ∃ z : Int, k ≤ len ∧ i = .int .i64 k ∧ n = .int .i64 z) (fun _ i => len - (intOf i).toNat)
    case atStart => exact ⟨0, 0, Nat.zero_le _, rfl, rfl⟩
    case round =>
      obtain ⟨k, z, hk, rfl, rfl⟩ := hrel
      by_cases hlt : k < len
      · obtain ⟨b, off, rfl, hP⟩ : ∃ b off, A = some ⟨b, off, none⟩ ∧ PAt w b (off + k * 11) (P k) := by
          rcases HP.out with h | ⟨b, off, e, h⟩
          · omega
          · exact ⟨b, off, e, h k hlt⟩
        have gb := hP.cb
        have hb1 : (0 : Int) ≤ (k : Int) := by omega
        have hb2 : (k : Int) < (len : Int) := by omega
        clear hP
        generalize (P k).A = pa at *
        generalize (P k).len = pl at *
        generalize (P k).cap = pc at *
        go_wp2
        go_round
        case rel => exact ⟨k + 1, _, by omega, by go_num, rfl⟩
        case measure => simp [intOf]; omega
      · obtain rfl : k = len := by omega
        go_wp2
        go_ret
        exact ⟨rfl, rfl⟩

/-- a piece's value -/
def pval (p : Prt) : Value := .agg (Value.int .i64 p.k :: Value.int .i64 p.n :: (bvals p.h ++ [Value.slice p.A p.len p.cap])).toArray
def PlainEnd (p : Prt) (e : Ending) (w' : World) : Prop :=
  if okP p = true then ∃ A c, e = .returned (.tuple #[.slice A (enc p).length c, .bool true]) ∧ Row w' A (enc p) ∧ (A = none → c = 0) else e = .returned (.tuple #[.slice none 0 0, .bool false])

theorem c10h (p : Prt) (w : World) (hk : p.k = 8) (h8 : p.h.length = 8) :
    Calls Try.prog 10 #[pval p] w fun e w' => PlainEnd p e w' ∧ Below w.heap.size w w' := by
  have he : enc p = p.h := by unfold enc; rw [if_pos hk]
  have ho : okP p = true := by unfold okP; simp [hk]
  have hE : ∀ e w', (∃ A c, e = .returned (.tuple #[.slice A 8 c, .bool true]) ∧ Row w' A p.h ∧ (A = none → c = 0)) → PlainEnd p e w' := fun e w' h => by unfold PlainEnd; rw [if_pos ho, he, h8]; exact h
  have HE := Lib.hid hE
  clear hE ho he
  obtain ⟨i0, hi, hz0, hz1, hz2⟩ := info_parts info5
  obtain ⟨k, n, h, A, len, cap, b⟩ := p
  simp only at hk h8 HE
  subst hk
  obtain ⟨x0, x1, x2, x3, x4, x5, x6, x7, rfl⟩ := len8 h8
  have hv : pval ⟨8, n, [x0, x1, x2, x3, x4, x5, x6, x7], A, len, cap, b⟩ = .agg #[.int .i64 8, .int .i64 n, .int .u8 x0, .int .u8 x1, .int .u8 x2, .int .u8 x3, .int .u8 x4, .int .u8 x5, .int .u8 x6, .int .u8 x7, .slice A len cap] := rfl
  rw [hv]
  have S : Hid (Src (w.alloc (Obj.cells #[.int .i64 8, .int .i64 n, .int .u8 x0, .int .u8 x1, .int .u8 x2, .int .u8 x3, .int .u8 x4, .int .u8 x5, .int .u8 x6, .int .u8 x7, .slice A len cap] 31)) (some ⟨w.heap.size, 2, none⟩) 8 [x0, x1, x2, x3, x4, x5, x6, x7]) := by
    refine ⟨rfl, .inr ⟨w.heap.size, 2, rfl, fun i hi => ?_⟩⟩
    rw [cell_of_row _ w.heap.size (2 + i) _ 31 (0, 0) (heap_alloc_new w _)]
    match i, hi with
    | 0, _ => rfl
    | 1, _ => rfl
    | 2, _ => rfl
    | 3, _ => rfl
    | 4, _ => rfl
    | 5, _ => rfl
    | 6, _ => rfl
    | 7, _ => rfl
  have B0 : Hid (Below w.heap.size w (w.alloc (Obj.cells #[.int .i64 8, .int .i64 n, .int .u8 x0, .int .u8 x1, .int .u8 x2, .int .u8 x3, .int .u8 x4, .int .u8 x5, .int .u8 x6, .int .u8 x7, .slice A len cap] 31))) := (Below.refl _ _).alloc (Nat.le_refl _) _
  have HI := Lib.hid hi
  have HI0 := Lib.hid hz0
  have HI1 := Lib.hid hz1
  have HI2 := Lib.hid hz2
  clear hi hz0 hz1 hz2 h8 hv
  go_enter Try.func10, Try.ntmps10
  go_wp2_with (at_builtin; refine wpList_app rfl (.const (.slice none 0 0)) (.tmp 9) 25 rfl i0 Try.underlying25 HI.out HI0.out HI1.out HI2.out w.heap.size 0 (.slice none 0 0) [] rfl (own_nil _ _) (some ⟨w.heap.size, 2, none⟩) 8 8 [x0, x1, x2, x3, x4, x5, x6, x7] rfl S.out (fun h => by cases h) (by unfold maxLen; omega) (by omega) (by simp) ?_; intro A2 cc2 w2 hown2 hg2 _)
  have b5 := B0.out.grown hg2 (by simp) (fun q hq => by cases hq)
  have OW := Lib.hid (src_own hown2)
  have OR := Lib.hid (own_row hown2)
  have BL := Lib.hid b5
  clear hown2 b5 hg2
  go_wp2
  go_ret2
  refine ⟨HE.out _ _ ⟨A2, cc2, rfl, ?_, OW.out.2⟩, BL.out⟩
  obtain ⟨A', c', e, h1, _, _⟩ := OR.out
  simp only [Value.slice.injEq] at e
  obtain ⟨rfl, _, rfl⟩ := e
  exact h1
end Go.Proofs.Ytjkhbddnbpnmcaa
