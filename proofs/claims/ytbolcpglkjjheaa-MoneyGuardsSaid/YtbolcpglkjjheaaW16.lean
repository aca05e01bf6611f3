/-
  The walk of MoneyGuards: the parts put together.
-/
import Derived.Test.YtbolcpglkjjheaaW15
namespace Go.Proofs.Ytbolcpglkjjheaa
open Go.RowKit

set_option maxRecDepth 100000 in
set_option maxHeartbeats 2000000 in
theorem walkGuardsY (a : Option Addr) (len cap : Nat) (deep : Int) (xs : List Int) (w : World) (hlen : xs.length = len) (h5 : len ≤ 100) (hd0 : 0 ≤ deep) (hd1 : deep ≤ 255) (hr : Row w a xs) (hok : okB xs = true) :
    Calls Try.prog 5 #[.slice a len cap, .int .u8 deep] w fun e w' => e = .returned (.bool true) ∧ Below w.heap.size w w' := by
  have hmf : ∀ (fn : Fn) (first cap : Array Value) (w : World), (Instr.makeFunc fn first cap).run Try.prog w = .ok (.func fn first cap) w := fun _ _ _ _ => rfl
  have CG := Lib.hid (guardY a len cap deep xs w hlen h5 hd0 hd1 hr hok)
  have hno : okB xs = true := hok
  have hz0 : sumZ xs = xs.sum := sum_yes hok
  have HL := Lib.hid hlen
  have HR := Lib.hid hr
  have HO := Lib.hid hok
  clear hlen hr hok
  go_enter Try.func5, Try.ntmps5
  go_wp2_with (go_at_call 8; refine (c8 _).mono ?_; rintro e w' ⟨rfl, rfl⟩)
  refine CG.out.mono ?_
  rintro e wm ⟨rfl, hM⟩
  have cl := cell_of_one hM.l
  have cn := cell_of_one hM.n
  have cs := cell_of_one hM.s
  have BM := Lib.hid hM.below
  have HRm := Lib.hid (row_below HR.out hM.below)
  clear hM
  go_wp2_with (first | (go_at_call 10; refine (c10 _ _ _).mono ?_; rintro e w' ⟨rfl, rfl⟩) | (go_at_call 16; refine (c16 _ _ _ xs _ HL.out (by omega) HRm.out).mono ?_; rintro e w' ⟨rfl, rfl⟩))
  go_loop [11, 12, 13, 14] (fun gd s u i => ∃ k : Nat, ∃ z : Int, k ≤ len ∧ i = .int .i64 k ∧ gd = .int .i64 k ∧ s = .int .i64 z ∧ u = .bool true ∧ z = (xs.take k).sum) (fun _ _ _ i => len - (intOf i).toNat)
  case atStart => exact ⟨0, 0, Nat.zero_le _, rfl, rfl, rfl, rfl, rfl⟩
  case round =>
    obtain ⟨k, z, hk, rfl, rfl, rfl, rfl, hz⟩ := hrel
    by_cases hlt : k < len
    · have hk' : k < xs.length := by rw [HL.out]; exact hlt
      have hx : ∃ b off, a = some ⟨b, off, none⟩ ∧ wm.cell? ⟨b, off + k, none⟩ = some (.int .i64 (xs.getD k 0)) := by
        rcases HRm.out with h | ⟨b, off, h1, h2⟩
        · rw [h] at hk'; exact absurd hk' (by simp)
        · exact ⟨b, off, h1, h2 k hk'⟩
      obtain ⟨b, off, rfl, hx⟩ := hx
      have ha := ok_next hk' (ok_take k HO.out)
      rw [ok_take (k + 1) HO.out, ← hz] at ha
      have SX := sum_next hk'
      rw [← hz] at SX
      obtain ⟨x, hxe⟩ : ∃ x, x = xs.getD k 0 := ⟨_, rfl⟩
      rw [← hxe] at hx ha SX
      have A1 : addB z x = true := ha.symm
      have A2 : addZ z x = z + x := if_pos A1
      have SX := Lib.hid SX
      clear hxe hz ha hk'
      go_wp2_with (first | (go_at_call 10; refine (c10 _ _ _).mono ?_; rintro e w' ⟨rfl, rfl⟩) | (go_at_call 16; refine (c16 _ _ _ xs _ HL.out (by omega) HRm.out).mono ?_; rintro e w' ⟨rfl, rfl⟩))
      go_round
      case rel => exact ⟨k + 1, z + x, by omega, by go_num, by go_num, rfl, rfl, SX.out.symm⟩
      case measure => simp [intOf]; omega
    · obtain rfl : k = len := by omega
      obtain rfl : z = xs.sum := by rw [hz, List.take_of_length_le (by rw [HL.out]; exact Nat.le_refl _)]
      clear hz
      go_wp2_with (first | (go_at_call 19; (with_reducible refine (c19n _).mono ?_); rintro e w' ⟨rfl, rfl⟩) | (go_at_call 19; (with_reducible refine (c19p 21 _ _ _ (fun _ => by kernel_rfl) (c21 _)).mono ?_); rintro e w' ⟨rfl, rfl⟩))
      go_ret
      exact ⟨rfl, BM.out⟩

set_option maxRecDepth 100000 in
set_option maxHeartbeats 2000000 in
theorem walkGuardsN (a : Option Addr) (len cap g : Nat) (deep : Int) (xs : List Int) (w : World) (hlen : xs.length = len) (h5 : len ≤ 100) (hd0 : 0 ≤ deep) (hd1 : deep ≤ 255) (hr : Row w a xs) (hok : Stop xs g) (hg : g < len) :
    Calls Try.prog 5 #[.slice a len cap, .int .u8 deep] w fun e w' => e = .returned (.bool true) ∧ Below w.heap.size w w' := by
  have hmf : ∀ (fn : Fn) (first cap : Array Value) (w : World), (Instr.makeFunc fn first cap).run Try.prog w = .ok (.func fn first cap) w := fun _ _ _ _ => rfl
  have CG := Lib.hid (guardN a len cap g deep xs w hlen h5 hd0 hd1 hr hg hok)
  have hno : okB xs = false := ok_no (hok.2.2 (by omega))
  have hz0 : sumZ xs = 0 := sum_no hno
  have HL := Lib.hid hlen
  have HR := Lib.hid hr
  have HO := Lib.hid hok
  clear hlen hr hok
  go_enter Try.func5, Try.ntmps5
  go_wp2_with (go_at_call 8; refine (c8 _).mono ?_; rintro e w' ⟨rfl, rfl⟩)
  refine CG.out.mono ?_
  rintro e wm ⟨rfl, hM⟩
  have cl := cell_of_one hM.l
  have cn := cell_of_one hM.n
  have cs := cell_of_one hM.s
  have BM := Lib.hid hM.below
  have HRm := Lib.hid (row_below HR.out hM.below)
  clear hM
  go_wp2_with (first | (go_at_call 10; refine (c10 _ _ _).mono ?_; rintro e w' ⟨rfl, rfl⟩) | (go_at_call 16; refine (c16 _ _ _ xs _ HL.out (by omega) HRm.out).mono ?_; rintro e w' ⟨rfl, rfl⟩))
  go_loop [11, 12, 13, 14] (fun gd s u i => ∃ k : Nat, ∃ z : Int, ∃ v : Bool, ∃ j : Nat, k ≤ g ∧ i = .int .i64 j ∧ gd = .int .i64 k ∧ s = .int .i64 z ∧ u = .bool v ∧ z = (xs.take k).sum ∧ (v = true → j = k) ∧ (v = false → k = g ∧ j ≤ len)) (fun _ _ u i => (len + 1 - (intOf i).toNat))
  case atStart => exact ⟨0, 0, true, 0, Nat.zero_le _, rfl, rfl, rfl, rfl, rfl, fun _ => rfl, fun h => by cases h⟩
  case round =>
    obtain ⟨k, z, v, j, hk, rfl, rfl, rfl, rfl, hz, hv1, hv2⟩ := hrel
    cases v with
    | true =>
      obtain rfl := hv1 rfl
      have hlt : j < len := by omega
      have hk' : j < xs.length := by rw [HL.out]; exact hlt
      have hx : ∃ b off, a = some ⟨b, off, none⟩ ∧ wm.cell? ⟨b, off + j, none⟩ = some (.int .i64 (xs.getD j 0)) := by
        rcases HRm.out with h | ⟨b, off, h1, h2⟩
        · rw [h] at hk'; exact absurd hk' (by simp)
        · exact ⟨b, off, h1, h2 j hk'⟩
      obtain ⟨b, off, rfl, hx⟩ := hx
      have ok0 : okB (xs.take j) = true := by have := ok_take j HO.out.2.1; rwa [List.take_take, Nat.min_eq_left (by omega)] at this
      have ha := ok_next hk' ok0
      rw [← hz] at ha
      have SX := sum_next hk'
      rw [← hz] at SX
      obtain ⟨x, hxe⟩ : ∃ x, x = xs.getD j 0 := ⟨_, rfl⟩
      rw [← hxe] at hx ha SX
      by_cases hjg : j < g
      · rw [stop_go HO.out hjg] at ha
        have A1 : addB z x = true := ha.symm
        have A2 : addZ z x = z + x := if_pos A1
        have SX := Lib.hid SX
        clear hxe hz ha hk' ok0 hv1 hv2
        go_wp2_with (first | (go_at_call 10; refine (c10 _ _ _).mono ?_; rintro e w' ⟨rfl, rfl⟩) | (go_at_call 16; refine (c16 _ _ _ xs _ HL.out (by omega) HRm.out).mono ?_; rintro e w' ⟨rfl, rfl⟩))
        go_round
        case rel => exact ⟨j + 1, z + x, true, j + 1, by omega, by go_num, by go_num, rfl, rfl, SX.out.symm, fun _ => rfl, fun h => by cases h⟩
        case measure => simp [intOf]; omega
      · obtain rfl : j = g := by omega
        rw [HO.out.2.2 hk'] at ha
        have A1 : addB z x = false := ha.symm
        have HZ := Lib.hid hz
        clear hxe hz ha hk' ok0 hv1 hv2 SX
        go_wp2_with (first | (go_at_call 10; refine (c10 _ _ _).mono ?_; rintro e w' ⟨rfl, rfl⟩) | (go_at_call 16; refine (c16 _ _ _ xs _ HL.out (by omega) HRm.out).mono ?_; rintro e w' ⟨rfl, rfl⟩))
        go_round
        case rel => exact ⟨j, z, false, j + 1, by omega, by go_num, rfl, rfl, rfl, HZ.out, fun h => (by cases h), fun _ => ⟨rfl, by omega⟩⟩
        case measure => simp [intOf]; omega
    | false =>
      obtain ⟨rfl, hj⟩ := hv2 rfl
      clear hv1 hv2
      obtain rfl : z = (xs.take k).sum := hz
      by_cases hjl : j < len
      · go_wp2_with (first | (go_at_call 19; (with_reducible refine (c19n _).mono ?_); rintro e w' ⟨rfl, rfl⟩) | (go_at_call 19; (with_reducible refine (c19p 21 _ _ _ (fun _ => by kernel_rfl) (c21 _)).mono ?_); rintro e w' ⟨rfl, rfl⟩))
        go_ret
        exact ⟨rfl, BM.out⟩
      · go_wp2_with (first | (go_at_call 19; (with_reducible refine (c19n _).mono ?_); rintro e w' ⟨rfl, rfl⟩) | (go_at_call 19; (with_reducible refine (c19p 21 _ _ _ (fun _ => by kernel_rfl) (c21 _)).mono ?_); rintro e w' ⟨rfl, rfl⟩))
        go_ret
        exact ⟨rfl, BM.out⟩

theorem walkGuards (a : Option Addr) (len cap : Nat) (deep : Int) (xs : List Int) (w : World) (hlen : xs.length = len) (hcap : len ≤ cap) (hcm : cap ≤ 9223372036854775807) (hr : Came w a len cap xs) (hd0 : 0 ≤ deep) (hd1 : deep ≤ 255) :
    Calls Try.prog 5 #[.slice a len cap, .int .u8 deep] w fun e w' => e = .returned (.bool true) ∧ Below w.heap.size w w' := by
  by_cases h5 : 100 < len
  · exact walkGuardsA a len cap deep w h5 (by omega)
  have hrow : Row w a xs := by
    rcases hr with ⟨rfl, rfl, rfl⟩ | ⟨x, rfl, rfl, rfl⟩ | ⟨b, off, rfl, h0, hc⟩
    · exact .inl (List.eq_nil_of_length_eq_zero hlen)
    · exact .inl (List.eq_nil_of_length_eq_zero hlen)
    · exact .inr ⟨b, off, rfl, by rw [hlen]; exact hc⟩
  cases hok : okB xs with
  | true => exact walkGuardsY a len cap deep xs w hlen (by omega) hd0 hd1 hrow hok
  | false =>
    obtain ⟨g, hg⟩ := stop_some xs
    exact walkGuardsN a len cap g deep xs w hlen (by omega) hd0 hd1 hrow hg (by have := stop_no hg hok; omega)
end Go.Proofs.Ytbolcpglkjjheaa
