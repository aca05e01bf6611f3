/-
  The document's own mark, bit and secret.
-/
import Derived.Test.YtmcmdpbdipgahaaLA
import Derived.Test.YtmcmdpbdipgahaaHD
namespace Go.Proofs.Ytmcmdpbdipgahaa
open Go.RowKit
theorem and1 (d : Nat) (h : d < 256) : bits .and .i64 (d : Int) 1 = ((d % 2 : Nat) : Int) := by
  have e1 : (BitVec.ofInt 64 (d : Int)).toNat = d := ofInt_u64 d (by omega)
  show IntKind.i64.wrap ((BitVec.ofInt 64 (d : Int) &&& BitVec.ofInt 64 ((1 : Nat) : Int)).toNat : Int) = _
  rw [BitVec.toNat_and, e1, ofInt_u64 1 (by omega), nat_mask1, IntKind.wrap_i64]
  have : d % 2 < 2 := by omega
  generalize d % 2 = z at *
  omega
attribute [local irreducible] ua da ba kk sw S8.run rt hs comp splice outB sha msg

set_option maxRecDepth 100000 in
set_option maxHeartbeats 4000000 in
theorem dMark (x : List Int) (w : World) (hx : x.length = 8) :
    Calls Try.prog 67 #[.agg (ba x)] w fun e w' => e = .returned (.agg (ba (mk x))) ∧ Below w.heap.size w w' := by
  have h4 := z27
  have HX := Lib.hid hx
  clear hx
  obtain ⟨S, hS⟩ : ∃ S, w.heap.size = S := ⟨_, rfl⟩
  have T0 : Hid (BA (w.alloc (Obj.cells (ba x) 31)) S 31 x) := by subst hS; exact heap_alloc_last w _
  have T1 : Hid (BA ((w.alloc (Obj.cells (ba x) 31)).alloc (Obj.cells (ba (zeros 8)) 31)) (S + 1) 31 (zeros 8)) := by
    show _ = _
    subst hS
    have := heap_alloc_last (w.alloc (Obj.cells (ba x) 31)) (Obj.cells (ba (zeros 8)) 31)
    simp only [World.size_alloc] at this
    exact this
  have T2 : Hid (BA ((w.alloc (Obj.cells (ba x) 31)).alloc (Obj.cells (ba (zeros 8)) 31)) S 31 x) := (Below.heap_alloc _ _ _ (lt_of_block T0.out)).trans T0.out
  have B0 : Hid (Below S w ((w.alloc (Obj.cells (ba x) 31)).alloc (Obj.cells (ba (zeros 8)) 31))) := by subst hS; exact ((Below.refl _ w).alloc (Nat.le_refl _) _).alloc (by simp) _
  have HS := Lib.hid hS
  go_enter Try.func67, Try.ntmps67
  go_wp2_with (first
    | (go_at_call 57
       have hz : ((w.alloc (Obj.cells (ba x) 31)).alloc (Obj.cells (ba (zeros 8)) 31)).heap.size = S + 1 + 1 := by simp [hS]
       generalize hw0 : (w.alloc (Obj.cells (ba x) 31)).alloc (Obj.cells (ba (zeros 8)) 31) = w0 at *
       have LS : Hid (S + 1 < w0.heap.size) := lt_of_block T1.out
       have hG := heap_alloc_last w0 (Obj.cells #[.slice (some ⟨S, 0, none⟩) 8 8] 106)
       have BG : Hid (Below S w (w0.alloc (Obj.cells #[.slice (some ⟨S, 0, none⟩) 8 8] 106))) := B0.out.alloc (by have := LS.out; omega) _
       have T4 : Hid (BA (w0.alloc (Obj.cells #[.slice (some ⟨S, 0, none⟩) 8 8] 106)) S 31 x) := (Below.heap_alloc w0 _ S (by have := LS.out; omega)).trans T2.out
       have T5 : Hid (BA (w0.alloc (Obj.cells #[.slice (some ⟨S, 0, none⟩) 8 8] 106)) (S + 1) 31 (zeros 8)) := (Below.heap_alloc w0 _ _ LS.out).trans T1.out
       have sx := src_ba (t := 31) T4.out 8 (by rw [HX.out]; omega)
       rw [List.take_of_length_le (by rw [HX.out]; omega)] at sx
       have C := c12 sum13 112 (some ⟨w0.heap.size, 0, none⟩) 1 1 _ _ _ _ _ (prtsN hG sx (Nat.le_refl _) (by decide)) (fun i hi h0 => by cases h0) (by rw [msg_oneL]; exact part_len 112 8 x HX.out (by omega))
       rw [msg_oneL, hz] at C
       refine C.mono ?_
       rintro e w1 ⟨rfl, hb⟩
       have T6 : Hid (BA w1 (S + 1) 31 (zeros 8)) := (hb.block _ (by simp; have := LS.out; omega)).trans T5.out
       have B1 : Hid (Below S w w1) := BG.out.trans (hb.mono (by simp; have := LS.out; omega))
       clear C sx hb hG hw0 hS hz)
    | (refine wpList_store_rowTo rfl 31 (.tmp 2) (.tmp 5) rfl rfl (S + 1) (ba ((sha (partM 112 8 x)).take 8)) rfl rfl 31 (ba (zeros 8)) T6.out (sz s27 (by rw [ba_size, take8L])) (by rw [ba_size, ba_size, take8L]; rfl) (ba_one _) ?_)
    | fail)
  refine bodyPost_ret (v := .agg (ba ((sha (partM 112 8 x)).take 8))) (results_cell_row rfl _ _ (S + 1) 31 _ (0, 0) _ rfl (setRow_heap _ _ _ _ _ _ T6.out) Try.underlying31 rfl (sz s27 (by rw [ba_size, take8L]))) rfl ⟨rfl, ?_⟩
  rw [HS.out]
  exact below_setRow B1.out (by omega) _
set_option maxRecDepth 100000 in
set_option maxHeartbeats 4000000 in
theorem dBit (m : List Int) (i : Nat) (w : World) (hm : m.length = 8) (hb : Byt m) (hi : i < 16) :
    Calls Try.prog 66 #[.agg (ba m), .int .i64 i] w fun e w' => e = .returned (.int .i64 (bt m i)) ∧ Below w.heap.size w w' := by
  obtain ⟨S, hS⟩ : ∃ S, w.heap.size = S := ⟨_, rfl⟩
  have HS := Lib.hid hS
  have T0 : Hid (BA (w.alloc (Obj.cells (ba m) 31)) S 31 m) := by subst hS; exact heap_alloc_last w _
  have B0 : Hid (Below S w (w.alloc (Obj.cells (ba m) 31))) := by subst hS; exact (Below.refl _ w).alloc (Nat.le_refl _) _
  obtain ⟨q, hq⟩ : ∃ q, i / 8 = q := ⟨_, rfl⟩
  obtain ⟨r, hr⟩ : ∃ r, i % 8 = r := ⟨_, rfl⟩
  have hx := byt_getD hb q (by omega)
  have c := ba_cell T0.out q (by omega)
  obtain ⟨x, hxe⟩ : ∃ x, m.getD q 0 = x := ⟨_, rfl⟩
  have HB : Hid (bt m i = x.toNat / 2 ^ r % 2) := by show _ = _; unfold bt; rw [hq, hr, hxe]
  rw [hxe] at hx c
  obtain ⟨n, rfl⟩ := Int.eq_ofNat_of_zero_le hx.1
  have e1 : Int.tdiv (i : Int) 8 = (q : Int) := by rw [Int.tdiv_eq_ediv_of_nonneg (by omega)]; omega
  have e2 : (i : Int) / 8 = (q : Int) := by omega
  have e3 : Int.tmod (i : Int) 8 = (r : Int) := by rw [Int.tmod_eq_emod_of_nonneg (by omega)]; omega
  have e4 : (i : Int) % 8 = (r : Int) := by omega
  have q0 : (0 : Int) ≤ (q : Int) := by omega
  have q1 : (q : Int) < 8 := by omega
  have r0 : (0 : Int) ≤ (r : Int) := by omega
  have r1 : (r : Int) < 8 := by omega
  have rt : (r : Int).toNat = r := by omega
  have rm : min r 64 = r := by omega
  obtain ⟨d, hd⟩ : ∃ d, n / 2 ^ r = d := ⟨_, rfl⟩
  have hd2 : d < 256 := by rw [← hd]; exact Nat.lt_of_le_of_lt (Nat.div_le_self _ _) (by omega)
  have ed : (n : Int) / 2 ^ r = (d : Int) := by rw [← hd]; simp
  have ea := and1 d hd2
  have HB2 : Hid (bt m i = d % 2) := by show _ = _; rw [HB.out, Int.toNat_natCast, hd]
  have f0 := fun i => free_of T0.out i
  clear hxe hq hr hm hb hi
  go_enter Try.func66, Try.ntmps66
  go_wp2
  go_ret
  refine ⟨?_, by rw [HS.out]; exact B0.out⟩
  rw [HB2.out]
  exact congrArg (fun z => Ending.returned (Value.int .i64 z)) (show (d : Int) % 2 = ((d % 2 : Nat) : Int) by omega)
theorem ba_new0 {w : World} {S : Nat} (h : w.heap.size = S) (xs : List Int) (t : TypeId) : BA (w.alloc (Obj.cells (ba xs) t)) S t xs := by subst h; exact heap_alloc_last w _
theorem ba_old0 {w : World} {b t : Nat} {xs : List Int} (h : BA w b t xs) (o : Obj) : BA (w.alloc o) b t xs := (Below.heap_alloc _ _ _ (lt_of_block h)).trans h
theorem size_al0 {w : World} {S : Nat} (h : w.heap.size = S) (o : Obj) : (w.alloc o).heap.size = S + 1 := by rw [World.size_alloc, h]
end Go.Proofs.Ytmcmdpbdipgahaa

/-
  The document's own secret.
-/
namespace Go.Proofs.Ytmcmdpbdipgahaa
open Go.RowKit
attribute [local irreducible] ua da ba kk sw S8.run rt hs comp splice outB sha msg bvals cat at8 at16 secM zeros

theorem dgSec (seed : List Int) (x : Int) (i b S N G : Nat) (w : World) (hs : seed.length = 8) (h1 : BA w S 31 seed) (h2 : w.heap[N]? = some (.cells #[.int .u8 x, .int .u8 (i : Int), .int .u8 (b : Int), .int .u8 0] 5 (0, 0))) (h3 : w.heap[G]? = some (.cells #[.slice (some ⟨S, 0, none⟩) 8 8, .slice (some ⟨N, 0, none⟩) 4 4] 106 (0, 0))) :
    Calls Try.prog 57 #[.int .u8 115, .slice (some ⟨G, 0, none⟩) 2 2] w fun e w' => e = .returned (.agg (ba (sec seed x i b))) ∧ Below w.heap.size w w' := by
  have sx := src_ba (t := 31) h1 8 (by omega)
  rw [List.take_of_length_le (by omega)] at sx
  have sy : Src w (some ⟨N, 0, none⟩) 4 [x, (i : Int), (b : Int), 0] := by
    refine ⟨rfl, .inr ⟨N, 0, rfl, fun k hk => ?_⟩⟩
    rw [cell_of_row w N (0 + k) _ 5 (0, 0) h2]
    match k, hk with
    | 0, _ => rfl
    | 1, _ => rfl
    | 2, _ => rfl
    | 3, _ => rfl
  have C := c12 sum13 115 (some ⟨G, 0, none⟩) 2 2 _ _ _ _ w (prts2 h3 sx sy (by decide) (by decide)) (fun k hk h0 => by
    by_cases e : k = 0
    · simp [e] at h0
    · simp [e] at h0) (by rw [msg_sec]; exact sec_le seed x i b hs)
  rw [msg_sec] at C
  exact C
attribute [local irreducible] sec

set_option maxRecDepth 100000 in
set_option maxHeartbeats 4000000 in
theorem dSec (seed : List Int) (index x : Int) (i b : Nat) (w : World) (hs : seed.length = 8) (hw : IntKind.u8.wrap index = x) (hi : i < 16) (hb : b < 2) :
    Calls Try.prog 65 #[.agg (ba seed), .int .i64 index, .int .i64 i, .int .i64 b] w fun e w' => e = .returned (.agg (ba (sec seed x i b))) ∧ Below w.heap.size w w' := by
  have h4 := z27
  have HL := Lib.hid hs
  have us : IntKind.u8.wrap (i : Int) = (i : Int) := by rw [IntKind.wrap_u8']; omega
  have ub : IntKind.u8.wrap (b : Int) = (b : Int) := by rw [IntKind.wrap_u8']; omega
  obtain ⟨S, hS⟩ : ∃ S, w.heap.size = S := ⟨_, rfl⟩
  have HS := Lib.hid hS
  have z1 := size_al0 hS (Obj.cells (ba seed) 31)
  have z2 := size_al0 z1 (Obj.cells (ba (zeros 8)) 31)
  have z3 := size_al0 z2 (Obj.cells #[.int .u8 x, .int .u8 (i : Int), .int .u8 (b : Int), .int .u8 0] 5)
  have z4 := size_al0 z3 (Obj.cells #[.slice (some ⟨S, 0, none⟩) 8 8, .slice (some ⟨S + 2, 0, none⟩) 4 4] 106)
  have T1 := Lib.hid (ba_old0 (ba_old0 (ba_old0 (ba_new0 hS seed 31) (Obj.cells (ba (zeros 8)) 31)) (Obj.cells #[.int .u8 x, .int .u8 (i : Int), .int .u8 (b : Int), .int .u8 0] 5)) (Obj.cells #[.slice (some ⟨S, 0, none⟩) 8 8, .slice (some ⟨S + 2, 0, none⟩) 4 4] 106))
  have R1 := Lib.hid (ba_old0 (ba_old0 (ba_new0 z1 (zeros 8) 31) (Obj.cells #[.int .u8 x, .int .u8 (i : Int), .int .u8 (b : Int), .int .u8 0] 5)) (Obj.cells #[.slice (some ⟨S, 0, none⟩) 8 8, .slice (some ⟨S + 2, 0, none⟩) 4 4] 106))
  have N1 : Hid (((((w.alloc (Obj.cells (ba seed) 31)).alloc (Obj.cells (ba (zeros 8)) 31)).alloc (Obj.cells #[.int .u8 x, .int .u8 (i : Int), .int .u8 (b : Int), .int .u8 0] 5)).alloc (Obj.cells #[.slice (some ⟨S, 0, none⟩) 8 8, .slice (some ⟨S + 2, 0, none⟩) 4 4] 106)).heap[S + 2]? = some (.cells #[.int .u8 x, .int .u8 (i : Int), .int .u8 (b : Int), .int .u8 0] 5 (0, 0))) := (Below.heap_alloc _ _ _ (by rw [z3]; omega)).trans (by have := heap_alloc_last ((w.alloc (Obj.cells (ba seed) 31)).alloc (Obj.cells (ba (zeros 8)) 31)) (Obj.cells #[.int .u8 x, .int .u8 (i : Int), .int .u8 (b : Int), .int .u8 0] 5); rw [z2] at this; exact this)
  have G1 : Hid (((((w.alloc (Obj.cells (ba seed) 31)).alloc (Obj.cells (ba (zeros 8)) 31)).alloc (Obj.cells #[.int .u8 x, .int .u8 (i : Int), .int .u8 (b : Int), .int .u8 0] 5)).alloc (Obj.cells #[.slice (some ⟨S, 0, none⟩) 8 8, .slice (some ⟨S + 2, 0, none⟩) 4 4] 106)).heap[S + 3]? = some (.cells #[.slice (some ⟨S, 0, none⟩) 8 8, .slice (some ⟨S + 2, 0, none⟩) 4 4] 106 (0, 0))) := by show _ = _; have := heap_alloc_last (((w.alloc (Obj.cells (ba seed) 31)).alloc (Obj.cells (ba (zeros 8)) 31)).alloc (Obj.cells #[.int .u8 x, .int .u8 (i : Int), .int .u8 (b : Int), .int .u8 0] 5)) (Obj.cells #[.slice (some ⟨S, 0, none⟩) 8 8, .slice (some ⟨S + 2, 0, none⟩) 4 4] 106); rw [z3] at this; exact this
  have B0 : Hid (Below S w ((((w.alloc (Obj.cells (ba seed) 31)).alloc (Obj.cells (ba (zeros 8)) 31)).alloc (Obj.cells #[.int .u8 x, .int .u8 (i : Int), .int .u8 (b : Int), .int .u8 0] 5)).alloc (Obj.cells #[.slice (some ⟨S, 0, none⟩) 8 8, .slice (some ⟨S + 2, 0, none⟩) 4 4] 106))) := ((((Below.refl S w).alloc (by omega) _).alloc (by omega) _).alloc (by omega) _).alloc (by omega) _
  have C16 := Lib.hid (dgSec seed x i b S (S + 2) (S + 3) ((((w.alloc (Obj.cells (ba seed) 31)).alloc (Obj.cells (ba (zeros 8)) 31)).alloc (Obj.cells #[.int .u8 x, .int .u8 (i : Int), .int .u8 (b : Int), .int .u8 0] 5)).alloc (Obj.cells #[.slice (some ⟨S, 0, none⟩) 8 8, .slice (some ⟨S + 2, 0, none⟩) 4 4] 106)) hs T1.out N1.out G1.out)
  have HZ4 := Lib.hid z4
  have LC : Hid ((sec seed x i b).length = 8) := sec_len _ _ _ _
  clear z1 z2 z3 z4 hs T1 N1 G1 hi hb
  go_enter Try.func65, Try.ntmps65
  go_wp2_with (first
    | (go_at_call 57
       refine C16.out.mono ?_
       rintro e w1 ⟨rfl, hb⟩
       have R2 : Hid (BA w1 (S + 1) 31 (zeros 8)) := (hb.block _ (by have := HZ4.out; omega)).trans R1.out
       have B1 : Hid (Below S w w1) := B0.out.trans (hb.mono (by have := HZ4.out; omega))
       clear hb)
    | (refine wpList_store_rowTo rfl 31 (.tmp 8) (.tmp 18) rfl rfl (S + 1) (ba (sec seed x i b)) rfl rfl 31 (ba (zeros 8)) R2.out (sz s27 (by rw [ba_size, LC.out])) (by rw [ba_size, ba_size, LC.out, zeros_len]) (ba_one _) ?_)
    | fail)
  refine bodyPost_ret (v := .agg (ba (sec seed x i b))) (results_cell_row rfl _ _ (S + 1) 31 _ (0, 0) _ rfl (setRow_heap _ _ _ _ _ _ R2.out) Try.underlying31 rfl (sz s27 (by rw [ba_size, LC.out]))) rfl ⟨rfl, ?_⟩
  rw [HS.out]
  exact below_setRow B1.out (by omega) _
end Go.Proofs.Ytmcmdpbdipgahaa
