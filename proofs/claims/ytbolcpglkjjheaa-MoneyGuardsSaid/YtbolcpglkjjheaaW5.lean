/-
  Sum: the closure that adds under Guard; the document's own sum.
-/
import Derived.Test.YtbolcpglkjjheaaW4
namespace Go.Proofs.Ytbolcpglkjjheaa
open Go.RowKit

theorem row_below {w W : World} {a : Option Addr} {xs : List Int} (h : Row w a xs) (hb : Below w.heap.size w W) : Row W a xs := by
  rcases h with h | ⟨b, off, rfl, hc⟩
  · exact .inl h
  · refine .inr ⟨b, off, rfl, fun i hi => ?_⟩
    have := World.block_lt_of_cell? w ⟨b, off + i, none⟩ (hc i hi)
    rw [hb.cell (p := ⟨b, off + i, none⟩) this]
    exact hc i hi
theorem c25y {a : Option Addr} {len : Nat} (cap : Nat) {xs : List Int} (w : World) (hlen : xs.length = len) (hm : len ≤ 9223372036854775807) (hr : Row w a xs) (hok : okB xs = true) :
    Calls Try.prog 25 #[.slice a len cap] w fun e w' => e = .returned (.int .i64 xs.sum) ∧ w = w' :=
  (c25 a len cap xs w hlen hm hr).mono fun _ _ h => ⟨by have := h.1; unfold TotEnd at this; rwa [if_pos hok] at this, h.2⟩
theorem c25n {a : Option Addr} {len : Nat} (cap : Nat) {xs : List Int} (w : World) (hlen : xs.length = len) (hm : len ≤ 9223372036854775807) (hr : Row w a xs) (hok : okB xs = false) :
    Calls Try.prog 25 #[.slice a len cap] w fun e w' => Died e ∧ w = w' :=
  (c25 a len cap xs w hlen hm hr).mono fun _ _ h => ⟨by have := h.1; unfold TotEnd at this; rw [hok] at this; exact this, h.2⟩
theorem c24y (p q : Addr) (a : Option Addr) (len cap : Nat) (xs : List Int) (z : Int) (w : World) (hp : w.cell? p = some (.slice a len cap)) (hq : w.cell? q = some (.int .i64 z)) (hz : w.frozen? q = false)
    (hlen : xs.length = len) (hm : len ≤ 9223372036854775807) (hr : Row w a xs) (hok : okB xs = true) :
    Calls Try.prog 24 #[.pointer (some p), .pointer (some q)] w fun e w' => e = .returned (.tuple #[]) ∧ w.setCell q (.int .i64 xs.sum) = w' := by
  have C := Lib.hid (c25y cap w hlen hm hr hok)
  clear hok hr hlen
  go_enter Try.func24, Try.ntmps24
  go_wp2_with (go_at_call 25; refine C.out.mono ?_; rintro e w' ⟨rfl, rfl⟩)
  go_end0
  exact ⟨rfl, rfl⟩
theorem c24n (p q : Addr) (a : Option Addr) (len cap : Nat) (xs : List Int) (w : World) (hp : w.cell? p = some (.slice a len cap))
    (hlen : xs.length = len) (hm : len ≤ 9223372036854775807) (hr : Row w a xs) (hok : okB xs = false) :
    Calls Try.prog 24 #[.pointer (some p), .pointer (some q)] w fun e w' => (∃ u v, e = .panicked [{ v := .iface u v, recovered := false }]) ∧ w = w' := by
  have C := Lib.hid (c25n cap w hlen hm hr hok)
  clear hok hr hlen
  go_enter Try.func24, Try.ntmps24
  go_wp2_with (go_at_call 25; refine C.out.mono ?_; rintro e w' ⟨⟨u, v, rfl⟩, rfl⟩)
  exact ⟨rfl, ⟨_, _, rfl⟩, rfl⟩

theorem c15y (a : Option Addr) (len cap : Nat) (xs : List Int) (w : World) (hlen : xs.length = len) (hm : len ≤ 9223372036854775807) (hr : Row w a xs) (hok : okB xs = true) :
    Calls Try.prog 15 #[.slice a len cap] w fun e w' => e = .returned (.tuple #[.int .i64 xs.sum, .bool true]) ∧ Below w.heap.size w w' := by
  have hmf : ∀ (fn : Fn) (first cap : Array Value) (w : World), (Instr.makeFunc fn first cap).run Try.prog w = .ok (.func fn first cap) w := fun _ _ _ _ => rfl
  have hB : Below w.heap.size w ((w.alloc (Obj.cells #[Value.slice a len cap] 27)).alloc (Obj.cells #[Value.int IntKind.i64 0] 3)) := ((Below.refl _ _).alloc (Nat.le_refl _) _).alloc (by simp) _
  have C := Lib.hid (c19y 24 _ _ _ (fun _ => by kernel_rfl) (c24y ⟨w.heap.size, 0, none⟩ ⟨w.heap.size + 1, 0, none⟩ a len cap xs 0 ((w.alloc (Obj.cells #[Value.slice a len cap] 27)).alloc (Obj.cells #[Value.int IntKind.i64 0] 3)) (by simp [go_sem]) (by simp [go_sem]) (by simp [go_sem]) hlen hm (row_below hr hB) hok))
  clear hlen hr hok hB
  go_enter Try.func15, Try.ntmps15
  go_wp2_with (go_at_call 19; refine C.out.mono ?_; rintro e w' ⟨rfl, rfl⟩)
  go_ret2
  exact ⟨rfl, ((Below.refl _ _).alloc (Nat.le_refl _) _).alloc (by simp) _⟩
theorem c15n (a : Option Addr) (len cap : Nat) (xs : List Int) (w : World) (hlen : xs.length = len) (hm : len ≤ 9223372036854775807) (hr : Row w a xs) (hok : okB xs = false) :
    Calls Try.prog 15 #[.slice a len cap] w fun e w' => e = .returned (.tuple #[.int .i64 0, .bool false]) ∧ Below w.heap.size w w' := by
  have hmf : ∀ (fn : Fn) (first cap : Array Value) (w : World), (Instr.makeFunc fn first cap).run Try.prog w = .ok (.func fn first cap) w := fun _ _ _ _ => rfl
  have hB : Below w.heap.size w ((w.alloc (Obj.cells #[Value.slice a len cap] 27)).alloc (Obj.cells #[Value.int IntKind.i64 0] 3)) := ((Below.refl _ _).alloc (Nat.le_refl _) _).alloc (by simp) _
  have C := Lib.hid (c19p 24 _ _ _ (fun _ => by kernel_rfl) (c24n ⟨w.heap.size, 0, none⟩ ⟨w.heap.size + 1, 0, none⟩ a len cap xs ((w.alloc (Obj.cells #[Value.slice a len cap] 27)).alloc (Obj.cells #[Value.int IntKind.i64 0] 3)) (by simp [go_sem]) hlen hm (row_below hr hB) hok))
  have HB := Lib.hid hB
  clear hlen hr hok hB
  go_enter Try.func15, Try.ntmps15
  go_wp2_with (go_at_call 19; refine C.out.mono ?_; rintro e w' ⟨rfl, rfl⟩)
  go_ret2
  exact ⟨rfl, HB.out⟩
theorem c15 (a : Option Addr) (len cap : Nat) (xs : List Int) (w : World) (hlen : xs.length = len) (hm : len ≤ 9223372036854775807) (hr : Row w a xs) :
    Calls Try.prog 15 #[.slice a len cap] w fun e w' => e = .returned (.tuple #[.int .i64 (sumZ xs), .bool (okB xs)]) ∧ Below w.heap.size w w' := by
  cases h : okB xs with
  | true => rw [sum_yes h]; exact c15y a len cap xs w hlen hm hr h
  | false => rw [sum_no h]; exact c15n a len cap xs w hlen hm hr h

set_option maxHeartbeats 1000000 in
theorem c16 (a : Option Addr) (len cap : Nat) (xs : List Int) (w : World) (hlen : xs.length = len) (hm : len ≤ 9223372036854775807) (hr : Row w a xs) :
    Calls Try.prog 16 #[.slice a len cap] w fun e w' => e = .returned (.tuple #[.int .i64 (sumZ xs), .bool (okB xs)]) ∧ w = w' := by
  rcases hr with rfl | ⟨b, off, rfl, hc⟩
  · obtain rfl : len = 0 := by simpa using hlen.symm
    go_enter Try.func16, Try.ntmps16
    go_wp2
    refine wp_loop_rounds 1 ?_
    rw [rounds_succ]
    go_wp2
    go_ret2
    exact ⟨rfl, rfl⟩
  have HC := Lib.hid hc
  have HL := Lib.hid hlen
  clear hc hlen
  go_enter Try.func16, Try.ntmps16
  go_wp2
  go_loop [4, 5, 6] (fun s o i => ∃ k : Nat, ∃ u : Bool, ∃ z : Int, k ≤ len ∧ i = .int .i64 k ∧ s = .int .i64 z ∧ o = .bool u ∧ u = okB (xs.take k) ∧ z = sumZ (xs.take k)) (fun _ _ i => len - (intOf i).toNat)
  case atStart => exact ⟨0, true, 0, Nat.zero_le _, rfl, rfl, rfl, rfl, rfl⟩
  case round =>
    obtain ⟨k, u, z, hk, rfl, rfl, rfl, hu, hz⟩ := hrel
    by_cases hlt : k < len
    · cases u with
      | true =>
        have hx := HC.out k (by rw [HL.out]; exact hlt)
        have hk' : k < xs.length := by rw [HL.out]; exact hlt
        rw [sum_yes hu.symm] at hz
        have NX := Lib.hid (ok_next hk' hu.symm)
        have SX := Lib.hid (sum_next hk')
        obtain ⟨x, hxe⟩ : ∃ x, x = xs.getD k 0 := ⟨_, rfl⟩
        rw [← hxe, ← hz] at NX SX
        rw [← hxe] at hx
        have Z1 : Hid (addZ z x = sumZ (xs.take (k + 1))) := by
          have n1 := NX.out
          have s1 := SX.out
          unfold addZ sumZ
          show (if addB z x = true then z + x else 0) = if okB (xs.take (k + 1)) = true then (xs.take (k + 1)).sum else 0
          rw [n1, s1]
        clear hxe hu hz hk' SX
        go_wp2_with (go_at_call 10; refine (c10 z x _).mono ?_; rintro e w' ⟨rfl, rfl⟩)
        go_round
        case rel => exact ⟨k + 1, addB z x, addZ z x, by omega, by go_num, rfl, rfl, NX.out.symm, Z1.out⟩
        case measure => simp [intOf]; omega
      | false =>
        have Z : Hid (okB xs = false) := Lib.hid (ok_no hu.symm)
        rw [sum_no hu.symm] at hz
        subst hz
        clear hu
        go_wp2
        go_ret2
        exact ⟨by rw [Z.out, sum_no Z.out] <;> rfl, rfl⟩
    · have ht : xs.take k = xs := List.take_of_length_le (by rw [HL.out]; omega)
      rw [ht] at hu hz
      have HU := Lib.hid hu
      have HZ := Lib.hid hz
      clear hu hz ht
      go_wp2
      go_ret2
      exact ⟨by rw [HU.out, HZ.out] <;> rfl, rfl⟩
end Go.Proofs.Ytbolcpglkjjheaa
