/-
  The walk of MoneySums, a case.
-/
import Derived.Test.YtbolcpglkjjheaaW7
namespace Go.Proofs.Ytbolcpglkjjheaa
open Go.RowKit

set_option maxRecDepth 100000 in
set_option maxHeartbeats 2000000 in
theorem walkSumsFy (b off len : Nat) (cut : Int) (xs : List Int) (w : World) (hlen : xs.length = len) (h0 : 0 < len) (h5 : len ≤ 100) (hr : Row w (some ⟨b, off, none⟩) xs) (ht0 : 0 ≤ cut) (ht : cut < 256) (hk : cut % ((len : Nat) + 1 : Int) = (len : Nat)) (e1 : okB xs = true) :
    Calls Try.prog 4 #[.slice (some ⟨b, off, none⟩) len len, .int .u8 cut] w fun e w' => e = .returned (.bool true) ∧ Below w.heap.size w w' := by
  obtain ⟨i0, hi, hz0, hz1, hz2⟩ := info_parts info3
  obtain ⟨e2, e3, e4, e5, e6, e7⟩ := parts xs len e1
  have hk0 : (0 : Int) ≤ (len : Int) := by omega
  have hn0 : ¬ len = 0 := by omega
  have RD0 := Lib.hid (show Row w (some ⟨b, off, none⟩) (xs.drop len) from .inl (by simp; omega))
  have RT0 := Lib.hid (show Row w (some ⟨b, off, none⟩) (xs.take len) from row_take len hr)
  have LD : Hid ((xs.drop len).length = 0) := Lib.hid (by rw [List.length_drop, hlen] ; omega)
  have LT : Hid ((xs.take len).length = len) := Lib.hid (by rw [List.length_take, hlen]; omega)
  have LA : Hid ((xs.drop len ++ xs.take len).length = 0 + (0) + len) := Lib.hid (by rw [List.length_append, List.length_drop, List.length_take, hlen]; omega)
  have HR := Lib.hid hr
  have HL := Lib.hid hlen
  clear hr hlen
  go_enter Try.func4, Try.ntmps4
  go_wp2_with (go_at_call 8; refine (c8 _).mono ?_; rintro e w' ⟨rfl, rfl⟩)
  refine (c15 _ _ _ xs _ HL.out (by omega) HR.out).mono ?_
  rintro e w1 ⟨rfl, hb1⟩
  have B1 := Lib.hid hb1
  clear hb1
  go_wp2_with (go_at_call 16; refine (c16 _ _ _ xs _ HL.out (by omega) (row_below HR.out B1.out)).mono ?_; rintro e w' ⟨rfl, rfl⟩)
  refine (c15 _ _ _ (xs.take len) _ LT.out (by omega) (row_below RT0.out B1.out)).mono ?_
  rintro e w2 ⟨rfl, hb2⟩
  have B2 := Lib.hid (B1.out.trans (hb2.mono B1.out.size))
  clear hb2
  go_wp2_with fail
  refine (c15 _ _ _ (xs.drop len) _ LD.out (by omega) (row_below RD0.out B2.out)).mono ?_
  rintro e w3 ⟨rfl, hb3⟩
  have B3 := Lib.hid (B2.out.trans (hb3.mono B2.out.size))
  clear hb3
  go_wp2_with (go_at_call 9; refine (c9 _ _ _).mono ?_; rintro e w' ⟨rfl, rfl⟩)
  have B4 := Lib.hid ((B3.out.alloc B3.out.size (Obj.cells #[] 3)).drew)
  have O0 := Lib.hid (own_none w3)
  have S0 := Lib.hid (src_row LD.out (row_below RD0.out B4.out))
  have Z3 := Lib.hid B3.out.size
  go_region_law (first
    | (refine step_app rfl (.tmp 68) (.tmp 71) 27 rfl i0 Try.underlying27 hi hz0 hz1 hz2 w3.heap.size 0 (.slice (some ⟨w3.heap.size, 0, none⟩) 0 0) [] (by simp [Act.eval]) O0.out (some ⟨b, off, none⟩) (0) (0) (xs.drop len) (by simp [Act.eval]) S0.out (by simp) (by unfold maxLen; omega) (by omega) (by simp) ?_; intro A1 c1 w4 hown1 hrow1 hg1; have B5 := Lib.hid (B4.out.grown hg1 (by have := Z3.out; simp; omega) (fun q hq => by have := Z3.out; simp [Value.ownBlock] at hq; omega)); have Z5 := Lib.hid (Nat.le_trans (show w3.heap.size ≤ (w3.alloc (Obj.cells #[] 3)).drew.heap.size by simp) hg1.size); have S1 := Lib.hid (src_row LT.out (row_below RT0.out B5.out)))
    | (refine step_app rfl (.tmp 72) (.tmp 75) 27 rfl i0 Try.underlying27 hi hz0 hz1 hz2 w3.heap.size (0 + (0)) (.slice A1 (0 + (0)) c1) ([] ++ xs.drop len) (by simp [Act.eval]) hown1 (some ⟨b, off, none⟩) len (len) (xs.take len) (by simp [Act.eval]) S1.out (by simp) (by unfold maxLen; omega) (by omega) Z5.out ?_; intro A2 c2 w5 hown2 hrow2 hg2; have B6 := Lib.hid (B5.out.grown hg2 B5.out.size (fun q hq => Nat.le_trans Z3.out (own_base hown1 q hq))))
    | (go_simp; go_at_call 15; refine (c15 A2 _ c2 (xs.drop len ++ xs.take len) _ (by have := LA.out; omega) (by omega) hrow2).mono ?_; rintro e w6 ⟨rfl, hb7⟩; have B7 := Lib.hid (B6.out.trans (hb7.mono B6.out.size)); clear hb7))
  all_goals
    clear hown1 hrow1 hown2 hrow2
    go_wp2
    go_ret
    exact ⟨rfl, B7.out⟩

set_option maxRecDepth 100000 in
set_option maxHeartbeats 2000000 in
theorem walkSumsFn (b off len : Nat) (cut : Int) (xs : List Int) (w : World) (hlen : xs.length = len) (h0 : 0 < len) (h5 : len ≤ 100) (hr : Row w (some ⟨b, off, none⟩) xs) (ht0 : 0 ≤ cut) (ht : cut < 256) (hk : cut % ((len : Nat) + 1 : Int) = (len : Nat)) (e1 : okB xs = false) :
    Calls Try.prog 4 #[.slice (some ⟨b, off, none⟩) len len, .int .u8 cut] w fun e w' => e = .returned (.bool true) ∧ Below w.heap.size w w' := by
  obtain ⟨i0, hi, hz0, hz1, hz2⟩ := info_parts info3
  have hk0 : (0 : Int) ≤ (len : Int) := by omega
  have hn0 : ¬ len = 0 := by omega
  have RD0 := Lib.hid (show Row w (some ⟨b, off, none⟩) (xs.drop len) from .inl (by simp; omega))
  have RT0 := Lib.hid (show Row w (some ⟨b, off, none⟩) (xs.take len) from row_take len hr)
  have LD : Hid ((xs.drop len).length = 0) := Lib.hid (by rw [List.length_drop, hlen] ; omega)
  have LT : Hid ((xs.take len).length = len) := Lib.hid (by rw [List.length_take, hlen]; omega)
  have LA : Hid ((xs.drop len ++ xs.take len).length = 0 + (0) + len) := Lib.hid (by rw [List.length_append, List.length_drop, List.length_take, hlen]; omega)
  have HR := Lib.hid hr
  have HL := Lib.hid hlen
  clear hr hlen
  go_enter Try.func4, Try.ntmps4
  go_wp2_with (go_at_call 8; refine (c8 _).mono ?_; rintro e w' ⟨rfl, rfl⟩)
  refine (c15 _ _ _ xs _ HL.out (by omega) HR.out).mono ?_
  rintro e w1 ⟨rfl, hb1⟩
  have B1 := Lib.hid hb1
  clear hb1
  go_wp2_with (go_at_call 16; refine (c16 _ _ _ xs _ HL.out (by omega) (row_below HR.out B1.out)).mono ?_; rintro e w' ⟨rfl, rfl⟩)
  refine (c15 _ _ _ (xs.take len) _ LT.out (by omega) (row_below RT0.out B1.out)).mono ?_
  rintro e w2 ⟨rfl, hb2⟩
  have B2 := Lib.hid (B1.out.trans (hb2.mono B1.out.size))
  clear hb2
  go_wp2_with fail
  refine (c15 _ _ _ (xs.drop len) _ LD.out (by omega) (row_below RD0.out B2.out)).mono ?_
  rintro e w3 ⟨rfl, hb3⟩
  have B3 := Lib.hid (B2.out.trans (hb3.mono B2.out.size))
  clear hb3
  go_wp2_with (go_at_call 9; refine (c9 _ _ _).mono ?_; rintro e w' ⟨rfl, rfl⟩)
  have B4 := Lib.hid ((B3.out.alloc B3.out.size (Obj.cells #[] 3)).drew)
  have O0 := Lib.hid (own_none w3)
  have S0 := Lib.hid (src_row LD.out (row_below RD0.out B4.out))
  have Z3 := Lib.hid B3.out.size
  go_region_law (first
    | (refine step_app rfl (.tmp 68) (.tmp 71) 27 rfl i0 Try.underlying27 hi hz0 hz1 hz2 w3.heap.size 0 (.slice (some ⟨w3.heap.size, 0, none⟩) 0 0) [] (by simp [Act.eval]) O0.out (some ⟨b, off, none⟩) (0) (0) (xs.drop len) (by simp [Act.eval]) S0.out (by simp) (by unfold maxLen; omega) (by omega) (by simp) ?_; intro A1 c1 w4 hown1 hrow1 hg1; have B5 := Lib.hid (B4.out.grown hg1 (by have := Z3.out; simp; omega) (fun q hq => by have := Z3.out; simp [Value.ownBlock] at hq; omega)); have Z5 := Lib.hid (Nat.le_trans (show w3.heap.size ≤ (w3.alloc (Obj.cells #[] 3)).drew.heap.size by simp) hg1.size); have S1 := Lib.hid (src_row LT.out (row_below RT0.out B5.out)))
    | (refine step_app rfl (.tmp 72) (.tmp 75) 27 rfl i0 Try.underlying27 hi hz0 hz1 hz2 w3.heap.size (0 + (0)) (.slice A1 (0 + (0)) c1) ([] ++ xs.drop len) (by simp [Act.eval]) hown1 (some ⟨b, off, none⟩) len (len) (xs.take len) (by simp [Act.eval]) S1.out (by simp) (by unfold maxLen; omega) (by omega) Z5.out ?_; intro A2 c2 w5 hown2 hrow2 hg2; have B6 := Lib.hid (B5.out.grown hg2 B5.out.size (fun q hq => Nat.le_trans Z3.out (own_base hown1 q hq))))
    | (go_simp; go_at_call 15; refine (c15 A2 _ c2 (xs.drop len ++ xs.take len) _ (by have := LA.out; omega) (by omega) hrow2).mono ?_; rintro e w6 ⟨rfl, hb7⟩; have B7 := Lib.hid (B6.out.trans (hb7.mono B6.out.size)); clear hb7))
  all_goals
    clear hown1 hrow1 hown2 hrow2
    go_wp2
    go_ret
    exact ⟨rfl, B7.out⟩

end Go.Proofs.Ytbolcpglkjjheaa
