/-
  The walk of MoneySums, a case.
-/
import Derived.Test.YtbolcpglkjjheaaW7
namespace Go.Proofs.Ytbolcpglkjjheaa
open Go.RowKit

set_option maxRecDepth 100000 in
set_option maxHeartbeats 2000000 in
theorem walkSumsDy (b off len cap k : Nat) (cut : Int) (xs : List Int) (w : World) (hlen : xs.length = len) (h5 : len ≤ 100) (_hcap : len ≤ cap) (hcm : cap ≤ 9223372036854775807) (hkc : k < cap) (hr : Row w (some ⟨b, off, none⟩) xs) (ht0 : 0 ≤ cut) (ht : cut < 256) (hk : cut % ((len : Nat) + 1 : Int) = (k : Nat)) (e1 : okB xs = true) :
    Calls Try.prog 4 #[.slice (some ⟨b, off, none⟩) len cap, .int .u8 cut] w fun e w' => e = .returned (.bool true) ∧ Below w.heap.size w w' := by
  obtain ⟨i0, hi, hz0, hz1, hz2⟩ := info_parts info3
  obtain ⟨e2, e3, e4, e5, e6, e7⟩ := parts xs k e1
  have hkl : k ≤ len := by have := Int.emod_lt_of_pos cut (show (0 : Int) < ((len : Nat) : Int) + 1 by omega); omega
  have hk0 : (0 : Int) ≤ (k : Int) := by omega
  have hk2 : (k : Int) ≤ (len : Int) := by omega
  have hk4 : (k : Int) ≤ (cap : Int) := by omega
  have hne : ¬ cap = k := by omega
  have hn0 : ¬ cap = 0 := by omega
  have RD0 := Lib.hid (show Row w (some ⟨b, off + k, none⟩) (xs.drop k) from row_drop k hr)
  have RT0 := Lib.hid (show Row w (some ⟨b, off, none⟩) (xs.take k) from row_take k hr)
  have LD : Hid ((xs.drop k).length = len - k) := Lib.hid (by rw [List.length_drop, hlen])
  have LT : Hid ((xs.take k).length = k) := Lib.hid (by rw [List.length_take, hlen]; omega)
  have LA : Hid ((xs.drop k ++ xs.take k).length = 0 + (len - k) + k) := Lib.hid (by rw [List.length_append, List.length_drop, List.length_take, hlen]; omega)
  have HR := Lib.hid hr
  have HL := Lib.hid hlen
  clear hr hlen
  go_enter Try.func4, Try.ntmps4
  go_wp2_with (go_at_call 8; refine (c8 _).mono ?_; rintro e w' ⟨rfl, rfl⟩)
  refine (c15 _ _ _ xs _ HL.out (by omega) HR.out).mono ?_
  rintro e w1 ⟨rfl, hb1⟩
  have B1 := Lib.hid hb1
  clear hb1
  go_wp2_with (go_at_call 16; refine (c16 _ _ _ xs _ HL.out (by omega) (row_below HR.out B1.out)).mono ?_; rintro e w' ⟨rfl, rfl⟩)
  refine (c15 _ _ _ (xs.take k) _ LT.out (by omega) (row_below RT0.out B1.out)).mono ?_
  rintro e w2 ⟨rfl, hb2⟩
  have B2 := Lib.hid (B1.out.trans (hb2.mono B1.out.size))
  clear hb2
  go_wp2_with fail
  refine (c15 _ _ _ (xs.drop k) _ LD.out (by omega) (row_below RD0.out B2.out)).mono ?_
  rintro e w3 ⟨rfl, hb3⟩
  have B3 := Lib.hid (B2.out.trans (hb3.mono B2.out.size))
  clear hb3
  go_wp2_with (go_at_call 9; refine (c9 _ _ _).mono ?_; rintro e w' ⟨rfl, rfl⟩)
  have B4 := Lib.hid ((B3.out.alloc B3.out.size (Obj.cells #[] 3)).drew)
  have O0 := Lib.hid (own_none w3)
  have S0 := Lib.hid (src_row LD.out (row_below RD0.out B4.out))
  have Z3 := Lib.hid B3.out.size
  go_region_law (first
    | (refine step_app rfl (.tmp 68) (.tmp 71) 27 rfl i0 Try.underlying27 hi hz0 hz1 hz2 w3.heap.size 0 (.slice (some ⟨w3.heap.size, 0, none⟩) 0 0) [] (by simp [Act.eval]) O0.out (some ⟨b, off + k, none⟩) (len - k) (cap - k) (xs.drop k) (by simp [Act.eval]) S0.out (by simp) (by unfold maxLen; omega) (by omega) (by simp) ?_; intro A1 c1 w4 hown1 hrow1 hg1; have B5 := Lib.hid (B4.out.grown hg1 (by have := Z3.out; simp; omega) (fun q hq => by have := Z3.out; simp [Value.ownBlock] at hq; omega)); have Z5 := Lib.hid (Nat.le_trans (show w3.heap.size ≤ (w3.alloc (Obj.cells #[] 3)).drew.heap.size by simp) hg1.size); have S1 := Lib.hid (src_row LT.out (row_below RT0.out B5.out)))
    | (refine step_app rfl (.tmp 72) (.tmp 75) 27 rfl i0 Try.underlying27 hi hz0 hz1 hz2 w3.heap.size (0 + (len - k)) (.slice A1 (0 + (len - k)) c1) ([] ++ xs.drop k) (by simp [Act.eval]) hown1 (some ⟨b, off, none⟩) k (cap) (xs.take k) (by simp [Act.eval]) S1.out (by simp) (by unfold maxLen; omega) (by omega) Z5.out ?_; intro A2 c2 w5 hown2 hrow2 hg2; have B6 := Lib.hid (B5.out.grown hg2 B5.out.size (fun q hq => Nat.le_trans Z3.out (own_base hown1 q hq))))
    | (go_simp; go_at_call 15; refine (c15 A2 _ c2 (xs.drop k ++ xs.take k) _ (by have := LA.out; omega) (by omega) hrow2).mono ?_; rintro e w6 ⟨rfl, hb7⟩; have B7 := Lib.hid (B6.out.trans (hb7.mono B6.out.size)); clear hb7))
  all_goals
    clear hown1 hrow1 hown2 hrow2
    go_wp2
    go_ret
    exact ⟨rfl, B7.out⟩

set_option maxRecDepth 100000 in
set_option maxHeartbeats 2000000 in
theorem walkSumsDn (b off len cap k : Nat) (cut : Int) (xs : List Int) (w : World) (hlen : xs.length = len) (h5 : len ≤ 100) (_hcap : len ≤ cap) (hcm : cap ≤ 9223372036854775807) (hkc : k < cap) (hr : Row w (some ⟨b, off, none⟩) xs) (ht0 : 0 ≤ cut) (ht : cut < 256) (hk : cut % ((len : Nat) + 1 : Int) = (k : Nat)) (e1 : okB xs = false) :
    Calls Try.prog 4 #[.slice (some ⟨b, off, none⟩) len cap, .int .u8 cut] w fun e w' => e = .returned (.bool true) ∧ Below w.heap.size w w' := by
  obtain ⟨i0, hi, hz0, hz1, hz2⟩ := info_parts info3
  have hkl : k ≤ len := by have := Int.emod_lt_of_pos cut (show (0 : Int) < ((len : Nat) : Int) + 1 by omega); omega
  have hk0 : (0 : Int) ≤ (k : Int) := by omega
  have hk2 : (k : Int) ≤ (len : Int) := by omega
  have hk4 : (k : Int) ≤ (cap : Int) := by omega
  have hne : ¬ cap = k := by omega
  have hn0 : ¬ cap = 0 := by omega
  have RD0 := Lib.hid (show Row w (some ⟨b, off + k, none⟩) (xs.drop k) from row_drop k hr)
  have RT0 := Lib.hid (show Row w (some ⟨b, off, none⟩) (xs.take k) from row_take k hr)
  have LD : Hid ((xs.drop k).length = len - k) := Lib.hid (by rw [List.length_drop, hlen])
  have LT : Hid ((xs.take k).length = k) := Lib.hid (by rw [List.length_take, hlen]; omega)
  have LA : Hid ((xs.drop k ++ xs.take k).length = 0 + (len - k) + k) := Lib.hid (by rw [List.length_append, List.length_drop, List.length_take, hlen]; omega)
  have HR := Lib.hid hr
  have HL := Lib.hid hlen
  clear hr hlen
  go_enter Try.func4, Try.ntmps4
  go_wp2_with (go_at_call 8; refine (c8 _).mono ?_; rintro e w' ⟨rfl, rfl⟩)
  refine (c15 _ _ _ xs _ HL.out (by omega) HR.out).mono ?_
  rintro e w1 ⟨rfl, hb1⟩
  have B1 := Lib.hid hb1
  clear hb1
  go_wp2_with (go_at_call 16; refine (c16 _ _ _ xs _ HL.out (by omega) (row_below HR.out B1.out)).mono ?_; rintro e w' ⟨rfl, rfl⟩)
  refine (c15 _ _ _ (xs.take k) _ LT.out (by omega) (row_below RT0.out B1.out)).mono ?_
  rintro e w2 ⟨rfl, hb2⟩
  have B2 := Lib.hid (B1.out.trans (hb2.mono B1.out.size))
  clear hb2
  go_wp2_with fail
  refine (c15 _ _ _ (xs.drop k) _ LD.out (by omega) (row_below RD0.out B2.out)).mono ?_
  rintro e w3 ⟨rfl, hb3⟩
  have B3 := Lib.hid (B2.out.trans (hb3.mono B2.out.size))
  clear hb3
  go_wp2_with (go_at_call 9; refine (c9 _ _ _).mono ?_; rintro e w' ⟨rfl, rfl⟩)
  have B4 := Lib.hid ((B3.out.alloc B3.out.size (Obj.cells #[] 3)).drew)
  have O0 := Lib.hid (own_none w3)
  have S0 := Lib.hid (src_row LD.out (row_below RD0.out B4.out))
  have Z3 := Lib.hid B3.out.size
  go_region_law (first
    | (refine step_app rfl (.tmp 68) (.tmp 71) 27 rfl i0 Try.underlying27 hi hz0 hz1 hz2 w3.heap.size 0 (.slice (some ⟨w3.heap.size, 0, none⟩) 0 0) [] (by simp [Act.eval]) O0.out (some ⟨b, off + k, none⟩) (len - k) (cap - k) (xs.drop k) (by simp [Act.eval]) S0.out (by simp) (by unfold maxLen; omega) (by omega) (by simp) ?_; intro A1 c1 w4 hown1 hrow1 hg1; have B5 := Lib.hid (B4.out.grown hg1 (by have := Z3.out; simp; omega) (fun q hq => by have := Z3.out; simp [Value.ownBlock] at hq; omega)); have Z5 := Lib.hid (Nat.le_trans (show w3.heap.size ≤ (w3.alloc (Obj.cells #[] 3)).drew.heap.size by simp) hg1.size); have S1 := Lib.hid (src_row LT.out (row_below RT0.out B5.out)))
    | (refine step_app rfl (.tmp 72) (.tmp 75) 27 rfl i0 Try.underlying27 hi hz0 hz1 hz2 w3.heap.size (0 + (len - k)) (.slice A1 (0 + (len - k)) c1) ([] ++ xs.drop k) (by simp [Act.eval]) hown1 (some ⟨b, off, none⟩) k (cap) (xs.take k) (by simp [Act.eval]) S1.out (by simp) (by unfold maxLen; omega) (by omega) Z5.out ?_; intro A2 c2 w5 hown2 hrow2 hg2; have B6 := Lib.hid (B5.out.grown hg2 B5.out.size (fun q hq => Nat.le_trans Z3.out (own_base hown1 q hq))))
    | (go_simp; go_at_call 15; refine (c15 A2 _ c2 (xs.drop k ++ xs.take k) _ (by have := LA.out; omega) (by omega) hrow2).mono ?_; rintro e w6 ⟨rfl, hb7⟩; have B7 := Lib.hid (B6.out.trans (hb7.mono B6.out.size)); clear hb7))
  all_goals
    clear hown1 hrow1 hown2 hrow2
    go_wp2
    go_ret
    exact ⟨rfl, B7.out⟩

end Go.Proofs.Ytbolcpglkjjheaa
