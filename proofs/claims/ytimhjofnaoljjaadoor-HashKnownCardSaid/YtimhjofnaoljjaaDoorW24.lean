/-
  The walk of HashKnown.
-/
import Derived.Test.YtimhjofnaoljjaaDoorW23
import Derived.Test.YtimhjofnaoljjaaDoorW10
namespace Go.Proofs.YtimhjofnaoljjaaDoor
open Go.RowKit
theorem sum13 : Sum13 := fun A len cap xs w h1 h2 h3 => c13 A len cap xs w h1 h2 h3
def kl : List Int := [97, 98, 99, 100, 98, 99, 100, 101, 99, 100, 101, 102, 100, 101, 102, 103, 101, 102, 103, 104, 102, 103, 104, 105, 103, 104, 105, 106, 104, 105, 106, 107, 105, 106, 107, 108, 106, 107, 108, 109, 107, 108, 109, 110, 108, 109, 110, 111, 109, 110, 111, 112, 110, 111, 112, 113]
theorem kb : ba kl = #[.int .u8 97, .int .u8 98, .int .u8 99, .int .u8 100, .int .u8 98, .int .u8 99, .int .u8 100, .int .u8 101, .int .u8 99, .int .u8 100, .int .u8 101, .int .u8 102, .int .u8 100, .int .u8 101, .int .u8 102, .int .u8 103, .int .u8 101, .int .u8 102, .int .u8 103, .int .u8 104, .int .u8 102, .int .u8 103, .int .u8 104, .int .u8 105, .int .u8 103, .int .u8 104, .int .u8 105, .int .u8 106, .int .u8 104, .int .u8 105, .int .u8 106, .int .u8 107, .int .u8 105, .int .u8 106, .int .u8 107, .int .u8 108, .int .u8 106, .int .u8 107, .int .u8 108, .int .u8 109, .int .u8 107, .int .u8 108, .int .u8 109, .int .u8 110, .int .u8 108, .int .u8 109, .int .u8 110, .int .u8 111, .int .u8 109, .int .u8 110, .int .u8 111, .int .u8 112, .int .u8 110, .int .u8 111, .int .u8 112, .int .u8 113] := rfl
theorem kl_len : kl.length = 56 := rfl
theorem se0 : (sha []).getD 0 0 = 227 := by kernel_rfl
theorem se1 : (sha []).getD 1 0 = 176 := by kernel_rfl
theorem se2 : (sha []).getD 2 0 = 196 := by kernel_rfl
theorem se31 : (sha []).getD 31 0 = 85 := by kernel_rfl
theorem sk0 : (sha kl).getD 0 0 = 36 := by kernel_rfl
theorem sk1 : (sha kl).getD 1 0 = 141 := by kernel_rfl
theorem sk2 : (sha kl).getD 2 0 = 106 := by kernel_rfl
theorem sk31 : (sha kl).getD 31 0 = 193 := by kernel_rfl
theorem bad0 : okT [48, 48, 48, 48, 48, 48, 48, 48, 48, 48, 48, 48, 48, 48, 103, 48] = false := by kernel_rfl
theorem badA : okT [48, 48, 48, 48, 48, 48, 48, 48, 48, 48, 48, 48, 48, 48, 48, 65] = false := by kernel_rfl
theorem read0 (w : World) : Calls Tryd.prog 11 #[.string ⟨#[48, 48, 48, 48, 48, 48, 48, 48, 48, 48, 48, 48, 48, 48, 103, 48]⟩] w fun e w' => e = .returned (.tuple #[.agg (ba (zeros 8)), .bool false]) ∧ Below w.heap.size w w' := by
  have := c11 ⟨#[48, 48, 48, 48, 48, 48, 48, 48, 48, 48, 48, 48, 48, 48, 103, 48]⟩ [48, 48, 48, 48, 48, 48, 48, 48, 48, 48, 48, 48, 48, 48, 103, 48] w rfl
  rw [rdV_bad bad0, bad0] at this
  exact this
theorem readA (w : World) : Calls Tryd.prog 11 #[.string ⟨#[48, 48, 48, 48, 48, 48, 48, 48, 48, 48, 48, 48, 48, 48, 48, 65]⟩] w fun e w' => e = .returned (.tuple #[.agg (ba (zeros 8)), .bool false]) ∧ Below w.heap.size w w' := by
  have := c11 ⟨#[48, 48, 48, 48, 48, 48, 48, 48, 48, 48, 48, 48, 48, 48, 48, 65]⟩ [48, 48, 48, 48, 48, 48, 48, 48, 48, 48, 48, 48, 48, 48, 48, 65] w rfl
  rw [rdV_bad badA, badA] at this
  exact this
theorem src_none (w : World) : Src w none 0 [] := ⟨rfl, .inl rfl⟩
theorem prts0 (w : World) : Prts w none 0 (fun _ => none) (fun _ => 0) (fun _ => 0) (fun _ => []) := ⟨.inl rfl, fun i hi => by omega, fun i hi => by omega⟩
theorem prts1 (w : World) (G : Nat) (h : w.heap[G]? = some (.cells #[.slice none 0 0] 25 (0, 0))) : Prts w (some ⟨G, 0, none⟩) 1 (fun _ => none) (fun _ => 0) (fun _ => 0) (fun _ => []) := by
  refine ⟨.inr ⟨G, 0, rfl, fun i hi => ?_⟩, fun i _ => src_none w, fun i _ => ⟨Nat.le_refl _, by omega⟩⟩
  obtain rfl : i = 0 := by omega
  rw [cell_of_row w G (0 + 0) _ 25 (0, 0) h]
  rfl
def m0 : List Int := [113]
def m1 : List Int := [113] ++ digs 0 4
theorem msg_0 : msg 113 (fun _ => 0) (fun _ => []) 0 = m0 := rfl
theorem msg_1 : msg 113 (fun _ => 0) (fun _ => []) 1 = m1 := by unfold m1; rw [msg1, msg0]; simp
theorem m0_len : m0.length ≤ 400000 := by decide
theorem m1_len : m1.length ≤ 400000 := by unfold m1; rw [List.length_append, digs_len]; decide
theorem of0 (w : World) (hk : Keys w) : Calls Tryd.prog 10 #[.int .u8 113, .slice none 0 0] w fun e w' => e = .returned (.agg (ba ((sha m0).take 8))) ∧ Below w.heap.size w w' := by
  have := c10 113 none 0 0 _ _ _ _ w hk (prts0 w) (by rw [msg_0]; exact m0_len)
  rw [msg_0] at this
  exact this
theorem of1 (w : World) (G : Nat) (hk : Keys w) (h : w.heap[G]? = some (.cells #[.slice none 0 0] 25 (0, 0))) : Calls Tryd.prog 10 #[.int .u8 113, .slice (some ⟨G, 0, none⟩) 1 1] w fun e w' => e = .returned (.agg (ba ((sha m1).take 8))) ∧ Below w.heap.size w w' := by
  have := c10 113 (some ⟨G, 0, none⟩) 1 1 _ _ _ _ w hk (prts1 w G h) (by rw [msg_1]; exact m1_len)
  rw [msg_1] at this
  exact this
theorem dg0 (w : World) : Calls Tryd.prog 12 #[.int .u8 113, .slice none 0 0] w fun e w' => e = .returned (.agg (ba ((sha m0).take 8))) ∧ Below w.heap.size w w' := by
  have := c12 sum13 113 none 0 0 _ _ _ _ w (prts0 w) (fun _ _ _ => rfl) (by rw [msg_0]; exact m0_len)
  rw [msg_0] at this
  exact this
theorem dg1 (w : World) (G : Nat) (h : w.heap[G]? = some (.cells #[.slice none 0 0] 25 (0, 0))) : Calls Tryd.prog 12 #[.int .u8 113, .slice (some ⟨G, 0, none⟩) 1 1] w fun e w' => e = .returned (.agg (ba ((sha m1).take 8))) ∧ Below w.heap.size w w' := by
  have := c12 sum13 113 (some ⟨G, 0, none⟩) 1 1 _ _ _ _ w (prts1 w G h) (fun _ _ _ => rfl) (by rw [msg_1]; exact m1_len)
  rw [msg_1] at this
  exact this
theorem src_k (w : World) : Src (w.alloc (Obj.cells #[.int .u8 97, .int .u8 98, .int .u8 99, .int .u8 100, .int .u8 98, .int .u8 99, .int .u8 100, .int .u8 101, .int .u8 99, .int .u8 100, .int .u8 101, .int .u8 102, .int .u8 100, .int .u8 101, .int .u8 102, .int .u8 103, .int .u8 101, .int .u8 102, .int .u8 103, .int .u8 104, .int .u8 102, .int .u8 103, .int .u8 104, .int .u8 105, .int .u8 103, .int .u8 104, .int .u8 105, .int .u8 106, .int .u8 104, .int .u8 105, .int .u8 106, .int .u8 107, .int .u8 105, .int .u8 106, .int .u8 107, .int .u8 108, .int .u8 106, .int .u8 107, .int .u8 108, .int .u8 109, .int .u8 107, .int .u8 108, .int .u8 109, .int .u8 110, .int .u8 108, .int .u8 109, .int .u8 110, .int .u8 111, .int .u8 109, .int .u8 110, .int .u8 111, .int .u8 112, .int .u8 110, .int .u8 111, .int .u8 112, .int .u8 113] 5 (56, 57))) (some ⟨w.heap.size, 0, none⟩) 56 kl := by
  rw [← kb]
  refine ⟨kl_len, .inr ⟨w.heap.size, 0, rfl, fun i hi => ?_⟩⟩
  rw [cell_of_row _ _ _ _ _ _ (heap_alloc_last w _)]
  have h : i < kl.length := by rw [kl_len]; exact hi
  simp [ba, bvals, List.getD, h]
theorem conv_k (w : World) : (convert 25 25 (.slice (some ⟨w.heap.size, 0, none⟩) 56 56)).run Tryd.prog (w.alloc (Obj.cells #[.int .u8 97, .int .u8 98, .int .u8 99, .int .u8 100, .int .u8 98, .int .u8 99, .int .u8 100, .int .u8 101, .int .u8 99, .int .u8 100, .int .u8 101, .int .u8 102, .int .u8 100, .int .u8 101, .int .u8 102, .int .u8 103, .int .u8 101, .int .u8 102, .int .u8 103, .int .u8 104, .int .u8 102, .int .u8 103, .int .u8 104, .int .u8 105, .int .u8 103, .int .u8 104, .int .u8 105, .int .u8 106, .int .u8 104, .int .u8 105, .int .u8 106, .int .u8 107, .int .u8 105, .int .u8 106, .int .u8 107, .int .u8 108, .int .u8 106, .int .u8 107, .int .u8 108, .int .u8 109, .int .u8 107, .int .u8 108, .int .u8 109, .int .u8 110, .int .u8 108, .int .u8 109, .int .u8 110, .int .u8 111, .int .u8 109, .int .u8 110, .int .u8 111, .int .u8 112, .int .u8 110, .int .u8 111, .int .u8 112, .int .u8 113] 5)) = .ok (.slice (some ⟨w.heap.size, 0, none⟩) 56 56) (w.alloc (Obj.cells #[.int .u8 97, .int .u8 98, .int .u8 99, .int .u8 100, .int .u8 98, .int .u8 99, .int .u8 100, .int .u8 101, .int .u8 99, .int .u8 100, .int .u8 101, .int .u8 102, .int .u8 100, .int .u8 101, .int .u8 102, .int .u8 103, .int .u8 101, .int .u8 102, .int .u8 103, .int .u8 104, .int .u8 102, .int .u8 103, .int .u8 104, .int .u8 105, .int .u8 103, .int .u8 104, .int .u8 105, .int .u8 106, .int .u8 104, .int .u8 105, .int .u8 106, .int .u8 107, .int .u8 105, .int .u8 106, .int .u8 107, .int .u8 108, .int .u8 106, .int .u8 107, .int .u8 108, .int .u8 109, .int .u8 107, .int .u8 108, .int .u8 109, .int .u8 110, .int .u8 108, .int .u8 109, .int .u8 110, .int .u8 111, .int .u8 109, .int .u8 110, .int .u8 111, .int .u8 112, .int .u8 110, .int .u8 111, .int .u8 112, .int .u8 113] 5 (56, 57))) := by
  have := Lib.run_convert_bytes_const (P := Tryd.prog) w 25 5 (ba kl) 56 56 Tryd.underlying25 Tryd.underlying5
  rw [ba_size, kl_len, kb] at this
  exact this
attribute [local irreducible] ua da ba kk sw S8.run rt hs comp splice outB sha msg m0 m1 kl
set_option maxRecDepth 100000 in
set_option maxHeartbeats 8000000 in
theorem walkKnown (w : World) (hk : Keys w) : Calls Tryd.prog 3 #[] w fun e w' => e = .returned (.bool true) ∧ Below w.heap.size w w' := by
  have HK := Lib.hid hk
  have HP : Hid (0 < w.heap.size) := keys_pos hk
  clear hk
  have h1 := z23
  have h2 := z27
  have C8 := Lib.hid (c8 w HK.out)
  obtain ⟨x0, x1, x2, x3, x4, x5, x6, x7, hx8, _⟩ := sum8 m0
  obtain ⟨y0, y1, y2, y3, y4, y5, y6, y7, hy8, _⟩ := sum8 m1
  have HX8 := Lib.hid hx8
  have HY8 := Lib.hid hy8
  clear hx8 hy8
  obtain ⟨V, hV⟩ : ∃ V, w.heap.size = V := ⟨_, rfl⟩
  have HV := Lib.hid hV
  have HV0 : Hid (0 < V) := by show _ < _; rw [← hV]; exact HP.out
  clear hV
  go_enter Tryd.func3, Tryd.ntmps3
  go_wp2_with (first
    | (go_at_call 8
       refine C8.out.mono ?_
       rintro e w1 ⟨rfl, hb⟩
       have B1 : Hid (Below V w w1) := (by rw [← HV.out]; exact hb)
       have K1 : Hid (Keys w1) := keys_below HK.out B1.out HV0.out
       have E1 := Lib.hid (c9 none 0 0 [] w1 K1.out (src_none w1) (by omega) (Nat.le_refl _) (by omega))
       clear hb C8)
    | (go_at_call 9
       refine E1.out.mono ?_
       rintro e w2 ⟨rfl, hb⟩
       have B2 : Hid (Below V w w2) := B1.out.trans (hb.mono (by have := B1.out.size; rw [HV.out] at this; exact this))
       have Bk : Hid (Below V w (w2.alloc (Obj.cells #[.int .u8 97, .int .u8 98, .int .u8 99, .int .u8 100, .int .u8 98, .int .u8 99, .int .u8 100, .int .u8 101, .int .u8 99, .int .u8 100, .int .u8 101, .int .u8 102, .int .u8 100, .int .u8 101, .int .u8 102, .int .u8 103, .int .u8 101, .int .u8 102, .int .u8 103, .int .u8 104, .int .u8 102, .int .u8 103, .int .u8 104, .int .u8 105, .int .u8 103, .int .u8 104, .int .u8 105, .int .u8 106, .int .u8 104, .int .u8 105, .int .u8 106, .int .u8 107, .int .u8 105, .int .u8 106, .int .u8 107, .int .u8 108, .int .u8 106, .int .u8 107, .int .u8 108, .int .u8 109, .int .u8 107, .int .u8 108, .int .u8 109, .int .u8 110, .int .u8 108, .int .u8 109, .int .u8 110, .int .u8 111, .int .u8 109, .int .u8 110, .int .u8 111, .int .u8 112, .int .u8 110, .int .u8 111, .int .u8 112, .int .u8 113] 5 (56, 57)))) := B2.out.alloc (by have := B2.out.size; rw [HV.out] at this; exact this) _
       have K2 : Hid (Keys (w2.alloc (Obj.cells #[.int .u8 97, .int .u8 98, .int .u8 99, .int .u8 100, .int .u8 98, .int .u8 99, .int .u8 100, .int .u8 101, .int .u8 99, .int .u8 100, .int .u8 101, .int .u8 102, .int .u8 100, .int .u8 101, .int .u8 102, .int .u8 103, .int .u8 101, .int .u8 102, .int .u8 103, .int .u8 104, .int .u8 102, .int .u8 103, .int .u8 104, .int .u8 105, .int .u8 103, .int .u8 104, .int .u8 105, .int .u8 106, .int .u8 104, .int .u8 105, .int .u8 106, .int .u8 107, .int .u8 105, .int .u8 106, .int .u8 107, .int .u8 108, .int .u8 106, .int .u8 107, .int .u8 108, .int .u8 109, .int .u8 107, .int .u8 108, .int .u8 109, .int .u8 110, .int .u8 108, .int .u8 109, .int .u8 110, .int .u8 111, .int .u8 109, .int .u8 110, .int .u8 111, .int .u8 112, .int .u8 110, .int .u8 111, .int .u8 112, .int .u8 113] 5 (56, 57)))) := keys_below HK.out Bk.out HV0.out
       have E2 := Lib.hid (c9 (some ⟨w2.heap.size, 0, none⟩) 56 56 kl _ K2.out (src_k w2) (by omega) (Nat.le_refl _) (by omega))
       have hcv := conv_k w2
       clear hb E1 B1 K1)
    | (go_at_call 9
       refine E2.out.mono ?_
       rintro e w3 ⟨rfl, hb⟩
       have B3 : Hid (Below V w w3) := Bk.out.trans (hb.mono (by have := Bk.out.size; rw [HV.out] at this; exact this))
       clear hb E2 Bk K2 B2 hcv
       obtain ⟨D, hD⟩ : ∃ D, w3.heap.size = D := ⟨_, rfl⟩
       have VD : Hid (V ≤ D) := (by show _ ≤ _; rw [← hD]; have := B3.out.size; rw [HV.out] at this; exact this)
       have T0 : Hid (BA (w3.alloc (Obj.cells (ba (zeros 32)) 23)) D 23 (zeros 32)) := (by subst hD; exact heap_alloc_last w3 _)
       have T1 : Hid (BA ((w3.alloc (Obj.cells (ba (zeros 32)) 23)).alloc (Obj.cells (ba (zeros 32)) 23)) (D + 1) 23 (zeros 32)) := (by
         subst hD
         have := heap_alloc_last (w3.alloc (Obj.cells (ba (zeros 32)) 23)) (Obj.cells (ba (zeros 32)) 23)
         simp only [World.size_alloc] at this
         exact this)
       have T2 : Hid (BA ((w3.alloc (Obj.cells (ba (zeros 32)) 23)).alloc (Obj.cells (ba (zeros 32)) 23)) D 23 (zeros 32)) := (Below.heap_alloc _ _ _ (lt_of_block T0.out)).trans T0.out
       have B4 : Hid (Below V w ((w3.alloc (Obj.cells (ba (zeros 32)) 23)).alloc (Obj.cells (ba (zeros 32)) 23))) := (B3.out.alloc (by rw [hD]; exact VD.out) _).alloc (by simp; rw [hD]; have := VD.out; omega) _
       clear T0)
    | (refine wpList_store_rowTo rfl 23 (.tmp 1) (.tmp 11) rfl rfl D (ba (sha [])) rfl rfl 23 (ba (zeros 32)) T2.out (sz s23 (by rw [ba_size, sha_len])) (by rw [ba_size, ba_size, sha_len]; rfl) (ba_one _) ?_
       generalize hq : ((w3.alloc (Obj.cells (ba (zeros 32)) 23)).alloc (Obj.cells (ba (zeros 32)) 23)).setRow D (ba (sha [])) = w4
       have T3 : Hid (BA w4 D 23 (sha [])) := (by rw [← hq]; exact setRow_heap _ _ _ _ _ _ T2.out)
       have T4 : Hid (BA w4 (D + 1) 23 (zeros 32)) := (by rw [← hq]; exact (setRow_other _ _ _ _ (by omega)).trans T1.out)
       have B5 : Hid (Below V w w4) := (by rw [← hq]; exact below_setRow B4.out VD.out _)
       clear hq T1 T2 B4)
    | (refine wpList_store_rowTo rfl 23 (.tmp 2) (.tmp 14) rfl rfl (D + 1) (ba (sha kl)) rfl rfl 23 (ba (zeros 32)) T4.out (sz s23 (by rw [ba_size, sha_len])) (by rw [ba_size, ba_size, sha_len]; rfl) (ba_one _) ?_
       generalize hq : w4.setRow (D + 1) (ba (sha kl)) = w5
       have T5 : Hid (BA w5 (D + 1) 23 (sha kl)) := (by rw [← hq]; exact setRow_heap _ _ _ _ _ _ T4.out)
       have T6 : Hid (BA w5 D 23 (sha [])) := (by rw [← hq]; exact (setRow_other _ _ _ _ (by omega)).trans T3.out)
       have B6 : Hid (Below V w w5) := (by rw [← hq]; exact below_setRow B5.out (by have := VD.out; omega) _)
       have L6 : Hid (D + 1 < w5.heap.size) := lt_of_block T5.out
       have E3 := Lib.hid (of0 w5 (keys_below HK.out B6.out HV0.out))
       clear hq T3 T4 B5 hD)
    | (go_at_call 10
       refine E3.out.mono ?_
       rintro e w6 ⟨rfl, hb⟩
       have X6 : Hid (Below w5.heap.size w5 w6) := hb
       obtain ⟨G, hG⟩ : ∃ G, w6.heap.size = G := ⟨_, rfl⟩
       have LG : Hid (w5.heap.size ≤ G) := (by show _ ≤ _; rw [← hG]; exact hb.size)
       have T7 : Hid (BA (w6.alloc (Obj.cells (ba (zeros 8)) 27)) G 27 (zeros 8)) := (by subst hG; exact heap_alloc_last w6 _)
       have HGG := Lib.hid hG
       clear hb E3)
    | (refine wpList_store_rowTo rfl 27 (.tmp 3) (.tmp 15) rfl rfl G (ba ((sha m0).take 8)) rfl rfl 27 (ba (zeros 8)) T7.out (sz s27 (by rw [ba_size, HX8.out]; rfl)) (by rw [ba_size, ba_size, HX8.out]; rfl) (ba_one _) ?_
       generalize hq : (w6.alloc (Obj.cells (ba (zeros 8)) 27)).setRow G (ba ((sha m0).take 8)) = w7
       have T8 : Hid (BA w7 G 27 [x0, x1, x2, x3, x4, x5, x6, x7]) := (by rw [← HX8.out, ← hq]; exact setRow_heap _ _ _ _ _ _ T7.out)
       have X7 : Hid (Below w5.heap.size w5 w7) := (by rw [← hq]; exact below_setRow (X6.out.alloc (by rw [hG]; exact LG.out) _) LG.out _)
       have Y7 : Hid (Below (w7.heap.size + 1) (w7.alloc (Obj.cells #[.slice none 0 0] 25)) (w7.alloc (Obj.cells #[.slice none 0 0] 25))) := Below.refl _ _
       have X8 : Hid (Below w5.heap.size w5 (w7.alloc (Obj.cells #[.slice none 0 0] 25))) := X7.out.alloc X7.out.size _
       have E4 := Lib.hid (of1 (w7.alloc (Obj.cells #[.slice none 0 0] 25)) w7.heap.size (keys_below HK.out (B6.out.trans (X8.out.mono (by have := L6.out; have := VD.out; omega))) HV0.out) (heap_alloc_last w7 _))
       have T9 : Hid (BA (w7.alloc (Obj.cells #[.slice none 0 0] 25)) G 27 [x0, x1, x2, x3, x4, x5, x6, x7]) := (Below.heap_alloc _ _ _ (lt_of_block T8.out)).trans T8.out
       clear hq T7 X6 hG HGG)
    | (go_at_call 10
       refine E4.out.mono ?_
       rintro e w8 ⟨rfl, hb⟩
       have X9 : Hid (Below w5.heap.size w5 w8) := X8.out.trans (hb.mono X8.out.size)
       have TA : Hid (BA w8 G 27 [x0, x1, x2, x3, x4, x5, x6, x7]) := (hb.block G (lt_of_block T9.out)).trans T9.out
       obtain ⟨H, hH⟩ : ∃ H, w8.heap.size = H := ⟨_, rfl⟩
       have GH : Hid (G < H) := (by show _ < _; rw [← hH]; exact lt_of_block TA.out)
       have TB : Hid (BA (w8.alloc (Obj.cells (ba (zeros 8)) 27)) H 27 (zeros 8)) := (by subst hH; exact heap_alloc_last w8 _)
       have TC : Hid (BA (w8.alloc (Obj.cells (ba (zeros 8)) 27)) G 27 [x0, x1, x2, x3, x4, x5, x6, x7]) := (Below.heap_alloc _ _ _ (lt_of_block TA.out)).trans TA.out
       clear hb E4 T8 X7 Y7 X8 T9)
    | (refine wpList_store_rowTo rfl 27 (.tmp 4) (.tmp 17) rfl rfl H (ba ((sha m1).take 8)) rfl rfl 27 (ba (zeros 8)) TB.out (sz s27 (by rw [ba_size, HY8.out]; rfl)) (by rw [ba_size, ba_size, HY8.out]; rfl) (ba_one _) ?_
       generalize hq : (w8.alloc (Obj.cells (ba (zeros 8)) 27)).setRow H (ba ((sha m1).take 8)) = w9
       have TD : Hid (BA w9 H 27 [y0, y1, y2, y3, y4, y5, y6, y7]) := (by rw [← HY8.out, ← hq]; exact setRow_heap _ _ _ _ _ _ TB.out)
       have TE : Hid (BA w9 G 27 [x0, x1, x2, x3, x4, x5, x6, x7]) := (by rw [← hq]; exact (setRow_other _ _ _ _ (by have := GH.out; omega)).trans TC.out)
       have XA : Hid (Below w5.heap.size w5 w9) := (by rw [← hq]; exact below_setRow (X9.out.alloc X9.out.size _) (by have := LG.out; have := GH.out; omega) _)
       have LH : Hid (H < w9.heap.size) := lt_of_block TD.out
       have R0 := Lib.hid (read0 w9)
       clear hq hH TB TC TA X9)
    | (go_at_call 11
       refine R0.out.mono ?_
       rintro e wa ⟨rfl, hb⟩
       have XB : Hid (Below w9.heap.size w9 wa) := hb
       obtain ⟨J, hJ⟩ : ∃ J, wa.heap.size = J := ⟨_, rfl⟩
       have LJ : Hid (w9.heap.size ≤ J) := (by show _ ≤ _; rw [← hJ]; exact hb.size)
       have TF : Hid (BA (wa.alloc (Obj.cells (ba (zeros 8)) 27)) J 27 (zeros 8)) := (by subst hJ; exact heap_alloc_last wa _)
       clear hb R0)
    | (refine wpList_store_rowTo rfl 27 (.tmp 5) (.tmp 20) rfl rfl J (ba (zeros 8)) rfl rfl 27 (ba (zeros 8)) TF.out (sz s27 (by rw [ba_size]; rfl)) rfl (ba_one _) ?_
       generalize hq : (wa.alloc (Obj.cells (ba (zeros 8)) 27)).setRow J (ba (zeros 8)) = wb
       have XC : Hid (Below w9.heap.size w9 wb) := (by rw [← hq]; exact below_setRow (XB.out.alloc (by rw [hJ]; exact LJ.out) _) LJ.out _)
       have RA := Lib.hid (readA wb)
       clear hq hJ TF XB LJ)
    | (go_at_call 11
       refine RA.out.mono ?_
       rintro e wc ⟨rfl, hb⟩
       have XD : Hid (Below w9.heap.size w9 wc) := XC.out.trans (hb.mono XC.out.size)
       obtain ⟨L, hL⟩ : ∃ L, wc.heap.size = L := ⟨_, rfl⟩
       have LL : Hid (w9.heap.size ≤ L) := (by show _ ≤ _; rw [← hL]; exact XD.out.size)
       have TG : Hid (BA (wc.alloc (Obj.cells (ba (zeros 8)) 27)) L 27 (zeros 8)) := (by subst hL; exact heap_alloc_last wc _)
       clear hb RA)
    | (refine wpList_store_rowTo rfl 27 (.tmp 7) (.tmp 24) rfl rfl L (ba (zeros 8)) rfl rfl 27 (ba (zeros 8)) TG.out (sz s27 (by rw [ba_size]; rfl)) rfl (ba_one _) ?_
       generalize hq : (wc.alloc (Obj.cells (ba (zeros 8)) 27)).setRow L (ba (zeros 8)) = wd
       have XE : Hid (Below w9.heap.size w9 wd) := (by rw [← hq]; exact below_setRow (XD.out.alloc (by rw [hL]; exact LL.out) _) LL.out _)
       clear hq hL TG XD LL)
    | fail)
  have KF : Hid (∀ w', Below wd.heap.size wd w' → (w'.cell? ⟨D, 0, none⟩ = some (.int .u8 227) ∧ w'.cell? ⟨D, 1, none⟩ = some (.int .u8 176) ∧ w'.cell? ⟨D, 2, none⟩ = some (.int .u8 196) ∧ w'.cell? ⟨D, 31, none⟩ = some (.int .u8 85)) ∧ (w'.cell? ⟨D + 1, 0, none⟩ = some (.int .u8 36) ∧ w'.cell? ⟨D + 1, 1, none⟩ = some (.int .u8 141) ∧ w'.cell? ⟨D + 1, 2, none⟩ = some (.int .u8 106) ∧ w'.cell? ⟨D + 1, 31, none⟩ = some (.int .u8 193)) ∧ (w'.cell? ⟨G, 0, none⟩ = some (.int .u8 x0) ∧ w'.cell? ⟨G, 1, none⟩ = some (.int .u8 x1) ∧ w'.cell? ⟨G, 2, none⟩ = some (.int .u8 x2) ∧ w'.cell? ⟨G, 3, none⟩ = some (.int .u8 x3) ∧ w'.cell? ⟨G, 4, none⟩ = some (.int .u8 x4) ∧ w'.cell? ⟨G, 5, none⟩ = some (.int .u8 x5) ∧ w'.cell? ⟨G, 6, none⟩ = some (.int .u8 x6) ∧ w'.cell? ⟨G, 7, none⟩ = some (.int .u8 x7)) ∧ (w'.cell? ⟨H, 0, none⟩ = some (.int .u8 y0) ∧ w'.cell? ⟨H, 1, none⟩ = some (.int .u8 y1) ∧ w'.cell? ⟨H, 2, none⟩ = some (.int .u8 y2) ∧ w'.cell? ⟨H, 3, none⟩ = some (.int .u8 y3) ∧ w'.cell? ⟨H, 4, none⟩ = some (.int .u8 y4) ∧ w'.cell? ⟨H, 5, none⟩ = some (.int .u8 y5) ∧ w'.cell? ⟨H, 6, none⟩ = some (.int .u8 y6) ∧ w'.cell? ⟨H, 7, none⟩ = some (.int .u8 y7))) := fun w' hb => by
    have L5 : D + 1 < w5.heap.size := L6.out
    have LE : w9.heap.size ≤ wd.heap.size := XE.out.size
    have LF : w5.heap.size ≤ w9.heap.size := XA.out.size
    have P0 : BA w' D 23 (sha []) := ((hb.block D (by omega)).trans (XE.out.block D (by omega))).trans ((XA.out.block D (by omega)).trans T6.out)
    have P1 : BA w' (D + 1) 23 (sha kl) := ((hb.block _ (by omega)).trans (XE.out.block _ (by omega))).trans ((XA.out.block _ (by omega)).trans T5.out)
    have P2 : BA w' G 27 [x0, x1, x2, x3, x4, x5, x6, x7] := ((hb.block G (by have := LH.out; have := GH.out; omega)).trans (XE.out.block G (by have := LH.out; have := GH.out; omega))).trans TE.out
    have P3 : BA w' H 27 [y0, y1, y2, y3, y4, y5, y6, y7] := ((hb.block H (by have := LH.out; omega)).trans (XE.out.block H LH.out)).trans TD.out
    have a0 := ba_cell P0 0 (by rw [sha_len]; omega)
    have a1 := ba_cell P0 1 (by rw [sha_len]; omega)
    have a2 := ba_cell P0 2 (by rw [sha_len]; omega)
    have a3 := ba_cell P0 31 (by rw [sha_len]; omega)
    have b0 := ba_cell P1 0 (by rw [sha_len]; omega)
    have b1 := ba_cell P1 1 (by rw [sha_len]; omega)
    have b2 := ba_cell P1 2 (by rw [sha_len]; omega)
    have b3 := ba_cell P1 31 (by rw [sha_len]; omega)
    rw [se0] at a0
    rw [se1] at a1
    rw [se2] at a2
    rw [se31] at a3
    rw [sk0] at b0
    rw [sk1] at b1
    rw [sk2] at b2
    rw [sk31] at b3
    exact ⟨⟨a0, a1, a2, a3⟩, ⟨b0, b1, b2, b3⟩, cells8 (t := 27) x0 x1 x2 x3 x4 x5 x6 x7 P2, cells8 (t := 27) y0 y1 y2 y3 y4 y5 y6 y7 P3⟩
  have D0 : Hid (∀ w', Calls Tryd.prog 12 #[.int .u8 113, .slice none 0 0] w' fun e w'' => e = .returned (.agg #[.int .u8 x0, .int .u8 x1, .int .u8 x2, .int .u8 x3, .int .u8 x4, .int .u8 x5, .int .u8 x6, .int .u8 x7]) ∧ Below w'.heap.size w' w'') := fun w' => by
    have := dg0 w'
    rw [HX8.out, ba_lit] at this
    exact this
  have D1 : Hid (∀ w' G', w'.heap[G']? = some (.cells #[.slice none 0 0] 25 (0, 0)) → Calls Tryd.prog 12 #[.int .u8 113, .slice (some ⟨G', 0, none⟩) 1 1] w' fun e w'' => e = .returned (.agg #[.int .u8 y0, .int .u8 y1, .int .u8 y2, .int .u8 y3, .int .u8 y4, .int .u8 y5, .int .u8 y6, .int .u8 y7]) ∧ Below w'.heap.size w' w'') := fun w' G' h => by
    have := dg1 w' G' h
    rw [HY8.out, ba_lit] at this
    exact this
  have BF : Hid (Below V w wd) := (B6.out.trans (XA.out.mono (by have := L6.out; have := VD.out; omega))).trans (XE.out.mono (by have := L6.out; have := VD.out; have := XA.out.size; omega))
  have VF : Hid (V ≤ wd.heap.size) := (by show _ ≤ _; have := L6.out; have := VD.out; have := XA.out.size; have := XE.out.size; omega)
  clear T5 T6 TD TE XA XE B6 L6 LG GH LH VD HX8 HY8
  have f2 := eqT x0 x1 x2 x3 x4 x5 x6 x7
  have f3 := eqT y0 y1 y2 y3 y4 y5 y6 y7
  have X0 : Hid (Below wd.heap.size wd wd) := Below.refl _ _
  obtain ⟨⟨a0, a1, a2, a3⟩, ⟨b0, b1, b2, b3⟩, ⟨c0, c1, c2, c3, c4, c5, c6, c7⟩, ⟨d0, d1, d2, d3, d4, d5, d6, d7⟩⟩ := KF.out wd X0.out
  go_region_held3 (fun w' => (w'.cell? ⟨D, 0, none⟩ = some (.int .u8 227) ∧ w'.cell? ⟨D, 1, none⟩ = some (.int .u8 176) ∧ w'.cell? ⟨D, 2, none⟩ = some (.int .u8 196) ∧ w'.cell? ⟨D, 31, none⟩ = some (.int .u8 85)) ∧ (w'.cell? ⟨D + 1, 0, none⟩ = some (.int .u8 36) ∧ w'.cell? ⟨D + 1, 1, none⟩ = some (.int .u8 141) ∧ w'.cell? ⟨D + 1, 2, none⟩ = some (.int .u8 106) ∧ w'.cell? ⟨D + 1, 31, none⟩ = some (.int .u8 193)) ∧ (w'.cell? ⟨G, 0, none⟩ = some (.int .u8 x0) ∧ w'.cell? ⟨G, 1, none⟩ = some (.int .u8 x1) ∧ w'.cell? ⟨G, 2, none⟩ = some (.int .u8 x2) ∧ w'.cell? ⟨G, 3, none⟩ = some (.int .u8 x3) ∧ w'.cell? ⟨G, 4, none⟩ = some (.int .u8 x4) ∧ w'.cell? ⟨G, 5, none⟩ = some (.int .u8 x5) ∧ w'.cell? ⟨G, 6, none⟩ = some (.int .u8 x6) ∧ w'.cell? ⟨G, 7, none⟩ = some (.int .u8 x7)) ∧ (w'.cell? ⟨H, 0, none⟩ = some (.int .u8 y0) ∧ w'.cell? ⟨H, 1, none⟩ = some (.int .u8 y1) ∧ w'.cell? ⟨H, 2, none⟩ = some (.int .u8 y2) ∧ w'.cell? ⟨H, 3, none⟩ = some (.int .u8 y3) ∧ w'.cell? ⟨H, 4, none⟩ = some (.int .u8 y4) ∧ w'.cell? ⟨H, 5, none⟩ = some (.int .u8 y5) ∧ w'.cell? ⟨H, 6, none⟩ = some (.int .u8 y6) ∧ w'.cell? ⟨H, 7, none⟩ = some (.int .u8 y7))) (first | exact KKa.out | exact KKb.out | go_keep)
    (first
      | (go_at_call 12; (with_reducible refine (D0.out _).mono ?_); rintro e wx ⟨rfl, hba⟩; have Xa : Hid (Below wd.heap.size wd wx) := (by first | exact X0.out.trans (hba.mono (Nat.le_refl _)) | exact X0.out.drew.trans (hba.mono (Nat.le_refl _))); have KKa := Lib.hid (KF.out wx Xa.out); clear hba D0)
      | (go_at_call 12; refine (D1.out _ _ (heap_alloc_last wx _)).mono ?_; rintro e wy ⟨rfl, hbb⟩; have Xb : Hid (Below wd.heap.size wd wy) := (by first | exact (Xa.out.alloc Xa.out.size _).trans (hbb.mono (by simp; have := Xa.out.size; omega)) | exact (Xa.out.alloc Xa.out.size _).drew.trans (hbb.mono (by simp; have := Xa.out.size; omega))); have KKb := Lib.hid (KF.out wy Xb.out); clear hbb))
  rename_i hHeld
  clear hHeld a0 a1 a2 a3 b0 b1 b2 b3 c0 c1 c2 c3 c4 c5 c6 c7 d0 d1 d2 d3 d4 d5 d6 d7
  go_wp2
  go_ret
  exact ⟨rfl, by rw [HV.out]; first | exact BF.out.trans (Xb.out.mono VF.out) | exact BF.out.trans (Xb.out.drew.mono VF.out)⟩
end Go.Proofs.YtimhjofnaoljjaaDoor
