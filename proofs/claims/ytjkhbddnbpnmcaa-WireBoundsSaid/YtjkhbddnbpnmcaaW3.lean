/-
  The document's own Num and Get; slices.Clone; the Writer's fail.
-/
import Derived.Test.YtjkhbddnbpnmcaaW2
namespace Go.Proofs.Ytjkhbddnbpnmcaa
open Go.RowKit

theorem src_one (w : World) (x : Int) : Src (w.alloc (Obj.cells #[.int .u8 x] 5)) (some ⟨w.heap.size, 0, none⟩) 1 [x] := by
  refine ⟨rfl, .inr ⟨w.heap.size, 0, rfl, fun i hi => ?_⟩⟩
  obtain rfl : i = 0 := by omega
  simp [go_sem]

set_option maxHeartbeats 1000000 in
theorem c23 (n : Int) (w : Nat) (W : World) (hw : w ≤ 7) :
    Calls Try.prog 23 #[.int .i64 n, .int .i64 w] W fun e W' => ∃ A c, e = .returned (.slice A w c) ∧ W'.ownsRow W.heap.size 5 1 (.slice A w c) w (bvals (digs n w)) ∧ Below W.heap.size W W' := by
  obtain ⟨i0, hi, hz0, hz1, hz2⟩ := info_parts info5
  have HI := Lib.hid hi
  have HI0 := Lib.hid hz0
  have HI1 := Lib.hid hz1
  have HI2 := Lib.hid hz2
  clear hi hz0 hz1 hz2
  go_enter Try.func23, Try.ntmps23
  go_wp2
  go_loopw [5, 6] (fun v i wr => ∃ (k : Nat) (A : Option Addr) (c : Nat), k ≤ w ∧ i = .int .i64 k ∧ v = .slice A k c ∧ wr.ownsRow W.heap.size 5 1 (.slice A k c) k (bvals (digs n k)) ∧ Below W.heap.size W wr) (fun _ i _ => w - (intOf i).toNat)
  case atStart => exact ⟨0, none, 0, Nat.zero_le _, rfl, rfl, own_nil _ _, Below.refl _ _⟩
  case round =>
    obtain ⟨k, A, c, hk, rfl, rfl, hown, hbel⟩ := hrel
    have OW := Lib.hid hown
    have BL := Lib.hid hbel
    clear hown hbel
    by_cases hlt : k < w
    · have h8 : (8 * (k : Int)).toNat = 8 * k := by omega
      have hmin : min (8 * k) 64 = 8 * k := by omega
      have hd : n / 2 ^ (8 * k) % 256 = dig n k := rfl
      go_wp2_with (at_builtin; refine wpList_app rfl (.tmp 12) (.tmp 19) 25 rfl i0 Try.underlying25 HI.out HI0.out HI1.out HI2.out W.heap.size k (.slice A k c) (digs n k) rfl (OW.out.alloc _) (some ⟨wr.heap.size, 0, none⟩) 1 1 [dig n k] rfl (src_one wr (dig n k)) (fun h => by cases h) (by unfold maxLen; omega) (by omega) (by have := BL.out.size; simp; omega) ?_; intro A2 cc2 w2 hown2 hg2 _)
      have b5 : Below W.heap.size W w2 := (BL.out.alloc BL.out.size _).grown hg2 (by have := BL.out.size; simp; omega) (own_base OW.out)
      go_roundw
      case rel => exact ⟨k + 1, A2, cc2, by omega, by go_num, rfl, by rw [digs_succ]; exact hown2, b5⟩
      case measure => simp [intOf]; omega
    · obtain rfl : k = w := by omega
      go_wp2
      go_ret
      exact ⟨A, c, rfl, OW.out, BL.out⟩

theorem numL_drop (ys : List Int) (k : Nat) (h : k < ys.length) : numL (ys.drop k) = ys.getD k 0 + 256 * numL (ys.drop (k + 1)) := by
  rw [List.drop_eq_getElem_cons h, numL]
  simp [List.getD, h]
theorem or_low (z x : Int) (h0 : 0 ≤ z) (h1 : z < 281474976710656) (hx0 : 0 ≤ x) (hx1 : x < 256) : bits .or .i64 (z * 256) x = x + 256 * z := by
  obtain ⟨Z, rfl⟩ := Int.eq_ofNat_of_zero_le h0
  obtain ⟨X, rfl⟩ := Int.eq_ofNat_of_zero_le hx0
  have e : ((Z : Int) * 256) = ((2 ^ 8 * Z : Nat) : Int) := by simp; omega
  have hX : X < 2 ^ 8 := by omega
  rw [e, i64_or_nat _ X (by omega) (by omega), ← Nat.two_pow_add_eq_or_of_lt hX]
  simp
  omega
set_option maxHeartbeats 1000000 in
theorem c18 (b off len cap at' : Nat) (ys : List Int) (w : World) (hm : len ≤ 9223372036854775807) (hat : at' + 4 ≤ len) (hb : Byt ys) (hl : ys.length = 4) (hc : ∀ i, i < 4 → w.cell? ⟨b, off + at' + i, none⟩ = some (.int .u8 (ys.getD i 0))) :
    Calls Try.prog 18 #[.slice (some ⟨b, off, none⟩) len cap, .int .i64 at', .int .i64 4] w fun e w' => e = .returned (.int .i64 (numL ys)) ∧ w = w' := by
  have HC := Lib.hid hc
  have HL := Lib.hid hl
  have HB := Lib.hid hb
  clear hc hl hb
  go_enter Try.func18, Try.ntmps18
  go_wp2
  go_loop [7, 8] (fun n i => ∃ k : Nat, ∃ z : Int, k ≤ 4 ∧ i = .int .i64 ((k : Int) - 1) ∧ n = .int .i64 z ∧ z = numL (ys.drop k)) (fun _ i => (intOf i + 1).toNat)
  case atStart => exact ⟨4, 0, Nat.le_refl _, rfl, rfl, by rw [List.drop_of_length_le (by rw [HL.out]; exact Nat.le_refl _)]; rfl⟩
  case round =>
    obtain ⟨k, z, hk, rfl, rfl, hz⟩ := hrel
    cases k with
    | succ k =>
      have hk' : k < ys.length := by rw [HL.out]; omega
      have hx := HC.out k (by omega)
      obtain ⟨x, hxe⟩ : ∃ x, x = ys.getD k 0 := ⟨_, rfl⟩
      have hx01 := byt_getD HB.out k hk'
      have NX := Lib.hid (numL_drop ys k hk')
      have hr := numL_range _ (byt_drop HB.out (k + 1))
      rw [List.length_drop, ← hz] at hr
      have hp := pow8_le (show ys.length - (k + 1) ≤ 3 by have := HL.out; omega)
      have e24 : (2 : Int) ^ (8 * 3) = 16777216 := by decide
      have hz2 : z < 16777216 := by omega
      have hz0 := hr.1
      rw [← hxe] at hx hx01
      obtain ⟨x0, x1⟩ := hx01
      have o1 := or_low z x hz0 (by omega) x0 x1
      have E := Lib.hid (show x + 256 * z = numL (ys.drop k) by rw [NX.out, hxe, hz])
      have hi : (((k + 1 : Nat) : Int) - 1) = k := by omega
      have hx' : w.cell? ⟨b, off + (at' + k), none⟩ = some (.int .u8 x) := by rw [← Nat.add_assoc]; exact hx
      clear hxe hz hr NX hk' hp e24 hx
      rw [hi]
      go_wp2
      go_round
      case rel => exact ⟨k, _, by omega, by go_num, rfl, E.out⟩
      case measure => simp [intOf]
    | zero =>
      have HZ := Lib.hid hz
      clear hz
      go_wp2
      go_ret
      exact ⟨by rw [HZ.out] <;> rfl, rfl⟩

/-- a clone of nil is nil; of bytes, a row of the call's own -/
theorem c33n (w : World) : Calls Try.prog 33 #[.slice none 0 0] w fun e w' => e = .returned (.slice none 0 0) ∧ w = w' := by
  have hnil : ∀ w : World, (binOp BinOp.eql 25 (.slice none 0 0) (.slice none 0 0)).run Try.prog w = .ok (.bool true) w := fun _ => by kernel_rfl
  go_enter Try.func33, Try.ntmps33
  go_wp2
  go_ret
  exact ⟨rfl, rfl⟩
theorem own_none (w : World) : (w.alloc (Obj.cells #[] 5)).ownsRow w.heap.size 5 1 (.slice (some ⟨w.heap.size, 0, none⟩) 0 0) 0 (bvals []) :=
  ⟨rfl, .inr ⟨w.heap.size, 0, #[], rfl, Nat.le_refl _, heap_alloc_new w _, Nat.le_refl _, Nat.zero_le _, rfl, rfl⟩⟩
theorem c33 (ad : Addr) (m c : Nat) (ys : List Int) (w : World) (hs : Src w (some ad) m ys) (hm : m ≤ 140737488355328) :
    Calls Try.prog 33 #[.slice (some ad) m c] w fun e w' => ∃ A c', e = .returned (.slice A m c') ∧ w'.ownsRow w.heap.size 5 1 (.slice A m c') m (bvals ys) ∧ Below w.heap.size w w' := by
  obtain ⟨i0, hi, hz0, hz1, hz2⟩ := info_parts info5
  have hnil : ∀ w : World, (binOp BinOp.eql 25 (.slice (some ad) m c) (.slice none 0 0)).run Try.prog w = .ok (.bool false) w := fun _ => rfl
  have HS : Hid (Src (w.alloc (Obj.cells #[] 5)) (some ad) m ys) := by
    refine ⟨hs.1, ?_⟩
    rcases hs.2 with h | ⟨b, off, h1, h2⟩
    · exact .inl h
    · refine .inr ⟨b, off, h1, fun i hi => ?_⟩
      have h0 := World.block_lt_of_cell? w ⟨b, off + i, none⟩ (h2 i hi)
      rw [World.cell?_of_block (w := w) (a := ⟨b, off + i, none⟩) (Below.heap_alloc w _ b h0)]
      exact h2 i hi
  have HI := Lib.hid hi
  have HI0 := Lib.hid hz0
  have HI1 := Lib.hid hz1
  have HI2 := Lib.hid hz2
  clear hi hz0 hz1 hz2 hs
  go_enter Try.func33, Try.ntmps33
  go_wp2_with (at_builtin; refine wpList_app rfl (.tmp 5) (.tmp 6) 25 rfl i0 Try.underlying25 HI.out HI0.out HI1.out HI2.out w.heap.size 0 (.slice (some ⟨w.heap.size, 0, none⟩) 0 0) [] rfl (own_none w) (some ad) m c ys rfl HS.out (fun h => by cases h) (by unfold maxLen; omega) (by omega) (by simp) ?_; intro A2 cc2 w2 hown2 hg2 _)
  have b5 : Below w.heap.size w w2 := ((Below.refl w.heap.size w).alloc (Nat.le_refl _) (Obj.cells #[] 5)).grown hg2 (by simp) (fun q hq => by simp [Value.ownBlock] at hq; omega)
  rw [Nat.zero_add] at hown2
  have OW := Lib.hid hown2
  have BL := Lib.hid b5
  clear hown2 b5 hg2
  go_wp2
  go_ret
  exact ⟨A2, cc2, rfl, OW.out, BL.out⟩
end Go.Proofs.Ytjkhbddnbpnmcaa
