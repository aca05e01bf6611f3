/-
  The document's Text.
-/
import Derived.Test.YtimhjofnaoljjaaDoorW26
namespace Go.Proofs.YtimhjofnaoljjaaDoor
open Go.RowKit
def sOf (l : List UInt8) : ByteArray := ⟨l.toArray⟩
theorem add_run (l m : List UInt8) (w : World) (h : l.length + m.length ≤ 100) : (Op.stringOp .add (sOf l) (sOf m)).run Tryd.prog w = .ok (.string (sOf (l ++ m))) w := by
  have e1 : (sOf l).size = l.length := by simp [sOf, ByteArray.size]
  have e2 : (sOf m).size = m.length := by simp [sOf, ByteArray.size]
  have e3 : sOf l ++ sOf m = sOf (l ++ m) := by
    apply ByteArray.ext
    simp [sOf]
  unfold Op.stringOp
  simp only [e1, e2, e3]
  rw [if_neg (by
    have : IntKind.i64.max = 9223372036854775807 := rfl
    rw [this]
    omega)]
  rfl
theorem sl_digit (z : Int) (w : World) (h0 : 0 ≤ z) (h1 : z < 16) : (Instr.slice 9 (.string ⟨#[48, 49, 50, 51, 52, 53, 54, 55, 56, 57, 97, 98, 99, 100, 101, 102]⟩) (some (.int .u8 z)) (some (.int .u8 (z + 1))) none).run Tryd.prog w = .ok (.string (sOf [hx z])) w := by
  rcases (show z = 0 ∨ z = 1 ∨ z = 2 ∨ z = 3 ∨ z = 4 ∨ z = 5 ∨ z = 6 ∨ z = 7 ∨ z = 8 ∨ z = 9 ∨ z = 10 ∨ z = 11 ∨ z = 12 ∨ z = 13 ∨ z = 14 ∨ z = 15 by omega) with rfl | rfl | rfl | rfl | rfl | rfl | rfl | rfl | rfl | rfl | rfl | rfl | rfl | rfl | rfl | rfl <;> (clear h0 h1; kernel_rfl)
attribute [local irreducible] ba ua hexL sOf
set_option maxRecDepth 100000 in
set_option maxHeartbeats 2000000 in
theorem c19 (xs : List Int) (w : World) (hl : xs.length = 8) (hb : Byt xs) :
    Calls Tryd.prog 19 #[.agg (ba xs)] w fun e w' => e = .returned (.string (sOf (hexL xs))) ∧ Below w.heap.size w w' := by
  have HL := Lib.hid hl
  have HB := Lib.hid hb
  clear hl hb
  obtain ⟨S, hS⟩ : ∃ S, w.heap.size = S := ⟨_, rfl⟩
  have T0 : Hid (BA (w.alloc (Obj.cells (ba xs) 27)) S 27 xs) := by subst hS; exact heap_alloc_last w _
  have B0 : Hid (Below S w (w.alloc (Obj.cells (ba xs) 27))) := by subst hS; exact (Below.refl _ w).alloc (Nat.le_refl _) _
  have HS := Lib.hid hS
  go_enter Tryd.func19, Tryd.ntmps19
  go_wp2_with fail
  generalize w.alloc (Obj.cells (ba xs) 27) = w0 at *
  clear hS
  go_loopw [3, 4] (fun s i wr => ∃ k : Nat, k ≤ 8 ∧ i = .int .i64 k ∧ s = .string (sOf (hexL (xs.take k))) ∧ BA wr S 27 xs ∧ Below S w wr) (fun _ i _ => 8 - (intOf i).toNat)
  case atStart => exact ⟨0, by omega, rfl, by rw [List.take_zero, show hexL [] = [] by unfold hexL; rfl]; unfold sOf; rfl, T0.out, B0.out⟩
  case round =>
    clear T0 B0
    obtain ⟨k, hk, rfl, rfl, hT, hbel⟩ := hrel
    have TT := Lib.hid hT
    have BB := Lib.hid hbel
    clear hT hbel
    by_cases hlt : k < 8
    · have hr := byt_getD0 HB.out k
      have ht : xs.take (k + 1) = xs.take k ++ [xs.getD k 0] := take_one xs k (by rw [HL.out]; exact hlt)
      have HTT := Lib.hid ht
      have hlen : (hexL (xs.take k)).length = 2 * k := by
        rw [hexL_len, List.length_take, HL.out]
        omega
      have c0 := ba_cell TT.out k (by rw [HL.out]; exact hlt)
      clear ht
      generalize xs.getD k 0 = x at *
      obtain ⟨x0, x1⟩ := hr
      have hA : bits .and .u8 x 15 = x % 16 := and15 x x0 x1
      have HIN : Hid (sOf (hexL (xs.take (k + 1))) = sOf (hexL (xs.take k) ++ [hx (x / 16)] ++ [hx (x % 16)])) := by
        show _ = _
        rw [HTT.out, hexL_one, hA]
        simp
      obtain ⟨q, hq⟩ : ∃ q, x / 16 = q := ⟨_, rfl⟩
      obtain ⟨r, hr⟩ : ∃ r, x % 16 = r := ⟨_, rfl⟩
      have q0 : 0 ≤ q := by omega
      have q1 : q < 16 := by omega
      have r0 : 0 ≤ r := by omega
      have r1 : r < 16 := by omega
      rw [hr] at hA HIN
      rw [hq] at HIN
      have sq : ∀ w, (Instr.slice 9 (.string ⟨#[48, 49, 50, 51, 52, 53, 54, 55, 56, 57, 97, 98, 99, 100, 101, 102]⟩) (some (.int .u8 q)) (some (.int .u8 (q + 1))) none).run Tryd.prog w = .ok (.string (sOf [hx q])) w := fun w => sl_digit q w q0 q1
      have sr : ∀ w, (Instr.slice 9 (.string ⟨#[48, 49, 50, 51, 52, 53, 54, 55, 56, 57, 97, 98, 99, 100, 101, 102]⟩) (some (.int .u8 r)) (some (.int .u8 (r + 1))) none).run Tryd.prog w = .ok (.string (sOf [hx r])) w := fun w => sl_digit r w r0 r1
      have wq : IntKind.u8.wrap (q + 1) = q + 1 := by rw [IntKind.wrap_u8]; omega
      have wr1 : IntKind.u8.wrap (r + 1) = r + 1 := by rw [IntKind.wrap_u8]; omega
      have a1 := fun w => add_run (hexL (xs.take k)) [hx q] w (by rw [hlen]; simp; omega)
      have a2 := fun w => add_run (hexL (xs.take k) ++ [hx q]) [hx r] w (by rw [List.length_append, hlen]; simp; omega)
      have e1 : (k : Int) < 8 := by omega
      clear hlen
      generalize hexL (xs.take k) ++ [hx q] ++ [hx r] = t2 at *
      generalize hexL (xs.take k) ++ [hx q] = t1 at *
      generalize hexL (xs.take k) = t0 at *
      generalize [hx q] = d1 at *
      generalize [hx r] = d2 at *
      go_wp2_with fail
      go_quiet (fail)
      generalize hz : wr.drewN _ = wv
      have TV : Hid (BA wv S 27 xs) := by rw [← hz]; exact TT.out
      have BV : Hid (Below S w wv) := by rw [← hz]; exact below_drewN BB.out _
      clear hz TT BB c0 hA sq sr wq wr1 a1 a2
      go_wp2
      go_roundw
      case rel => exact ⟨k + 1, by omega, by go_num, by rw [HIN.out], TV.out, BV.out⟩
      case measure => simp [intOf]; omega
    · obtain rfl : k = 8 := by omega
      have ht : xs.take 8 = xs := List.take_of_length_le (by rw [HL.out]; exact Nat.le_refl _)
      rw [ht]
      clear ht
      go_wp2
      go_ret
      exact ⟨rfl, by rw [HS.out]; exact BB.out⟩
end Go.Proofs.YtimhjofnaoljjaaDoor
