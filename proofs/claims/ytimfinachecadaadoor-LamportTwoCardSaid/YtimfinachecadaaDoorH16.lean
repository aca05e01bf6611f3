/-
  The document's Num; Of.
-/
import Derived.Test.YtimfinachecadaaDoorH9
namespace Go.Proofs.YtimfinachecadaaDoor
open Go.RowKit
set_option maxHeartbeats 1000000 in
theorem c21 (n : Int) (w : Nat) (W : World) (hw : w ≤ 7) :
    Calls Tryd.prog 23 #[.int .i64 n, .int .i64 w] W fun e W' => ∃ A c, e = .returned (.slice A w c) ∧ W'.ownsRow W.heap.size 5 1 (.slice A w c) w (bvals (digs n w)) ∧ Below W.heap.size W W' := by
  obtain ⟨i0, hi, hz0, hz1, hz2⟩ := info_parts info5
  have HI := Lib.hid hi
  have HI0 := Lib.hid hz0
  have HI1 := Lib.hid hz1
  have HI2 := Lib.hid hz2
  clear hi hz0 hz1 hz2
  go_enter Tryd.func23, Tryd.ntmps23
  go_wp2
  go_loopw [5, 6] (fun v i wr => ∃ (k : Nat) (A : Option Addr) (c : Nat), k ≤ w ∧ i = .int .i64 k ∧ v = .slice A k c ∧ wr.ownsRow W.heap.size 5 1 (.slice A k c) k (bvals (digs n k)) ∧ Below W.heap.size W wr) (fun _ i _ => w - (intOf i).toNat)
  case atStart => exact ⟨0, none, 0, Nat.zero_le _, rfl, rfl, own_nil _ _, Below.refl _ _⟩
  case round =>
    obtain ⟨k, A, c, hk, rfl, rfl, hown, hbel⟩ := hrel
    have OW := Lib.hid hown
    have BL := Lib.hid hbel
    clear hown hbel
    by_cases hlt : k < w
    · have h8 : (8 * (k : Int)).toNat = 8 * k := by omega
      have hmin : min (8 * k) 64 = 8 * k := by omega
      have hd : n / 2 ^ (8 * k) % 256 = dig n k := rfl
      go_wp2_with (at_builtin; refine wpList_app rfl (.tmp 12) (.tmp 19) 38 rfl i0 Tryd.underlying38 HI.out HI0.out HI1.out HI2.out W.heap.size k (.slice A k c) (digs n k) rfl (OW.out.alloc _) (some ⟨wr.heap.size, 0, none⟩) 1 1 [dig n k] rfl (src_one wr (dig n k)) (fun h => by cases h) (by unfold maxLen; omega) (by omega) (by have := BL.out.size; simp; omega) ?_; intro A2 cc2 w2 hown2 hg2 _)
      have b5 : Below W.heap.size W w2 := (BL.out.alloc BL.out.size _).grown hg2 (by have := BL.out.size; simp; omega) (own_base OW.out)
      go_roundw
      case rel => exact ⟨k + 1, A2, cc2, by omega, by go_num, rfl, by rw [digs_succ]; exact hown2, b5⟩
      case measure => simp [intOf]; omega
    · obtain rfl : k = w := by omega
      go_wp2
      go_ret
      exact ⟨A, c, rfl, OW.out, BL.out⟩

end Go.Proofs.YtimfinachecadaaDoor
