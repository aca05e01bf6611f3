/-
  Words for keys that sign once: rows of hashes by a function, a message's bits, secrets, marks, keys.
-/
import Derived.Test.YtfneopmgckejdaaDoorHC
import Derived.Deep.MidRow
import Derived.Laws.BitsAllLaws
namespace Go.Proofs.YtfneopmgckejdaaDoor
open Go.RowKit
/-- one part's digest: what goes in -/
def partM (p : Int) (n : Nat) (x : List Int) : List Int := [p] ++ digs n 4 ++ x
/-- a secret's digest: what goes in -/
def secM (seed : List Int) (x : Int) (i b : Nat) : List Int := [115] ++ digs 8 4 ++ seed ++ digs 4 4 ++ [x, (i : Int), (b : Int), 0]
def mk (x : List Int) : List Int := (sha (partM 112 8 x)).take 8
def pubk (a : List Int) : List Int := (sha (partM 107 256 a)).take 8
def sec (seed : List Int) (x : Int) (i b : Nat) : List Int := (sha (secM seed x i b)).take 8
theorem take8L (m : List Int) : ((sha m).take 8).length = 8 := by rw [List.length_take, sha_len]; rfl
theorem mk_len (x : List Int) : (mk x).length = 8 := take8L _
theorem pubk_len (x : List Int) : (pubk x).length = 8 := take8L _
theorem sec_len (s : List Int) (x : Int) (i b : Nat) : (sec s x i b).length = 8 := take8L _
/-- a message's bit -/
def bt (m : List Int) (i : Nat) : Nat := (m.getD (i / 8) 0).toNat / 2 ^ (i % 8) % 2
theorem bt_two (m : List Int) (i : Nat) : bt m i = 0 ∨ bt m i = 1 := by unfold bt; omega
/-- hashes in a row, by a function -/
def cat (F : Nat → List Int) : Nat → List Int
  | 0 => []
  | n + 1 => cat F n ++ F n
theorem cat_zero (F : Nat → List Int) : cat F 0 = [] := rfl
theorem cat_succ (F : Nat → List Int) (n : Nat) : cat F (n + 1) = cat F n ++ F n := rfl
theorem cat_len (F : Nat → List Int) (hF : ∀ j, (F j).length = 8) : ∀ n, (cat F n).length = 8 * n
  | 0 => rfl
  | n + 1 => by rw [cat_succ, List.length_append, cat_len F hF n, hF]; omega
theorem cat_ext {F G : Nat → List Int} : ∀ {n : Nat}, (∀ j, j < n → F j = G j) → cat F n = cat G n
  | 0, _ => rfl
  | n + 1, h => by rw [cat_succ, cat_succ, cat_ext (n := n) fun j hj => h j (by omega), h n (by omega)]
/-- the hash at a place of a row -/
def at8 (l : List Int) (s : Nat) : List Int := (l.drop (8 * s)).take 8
def at16 (l : List Int) (s : Nat) : List Int := (l.drop (16 * s)).take 16
theorem at8_len {l : List Int} {n s : Nat} (h : l.length = 8 * n) (hs : s < n) : (at8 l s).length = 8 := by unfold at8; rw [List.length_take, List.length_drop]; omega
theorem at16_len {l : List Int} {n s : Nat} (h : l.length = 16 * n) (hs : s < n) : (at16 l s).length = 16 := by unfold at16; rw [List.length_take, List.length_drop]; omega
theorem at16_two (l : List Int) (s : Nat) : at16 l s = at8 l (2 * s) ++ at8 l (2 * s + 1) := by
  unfold at16 at8
  rw [show (16 : Nat) = 8 + 8 from rfl, List.take_add, List.drop_drop, show (8 + 8) * s = 8 * (2 * s) by omega, show 8 * (2 * s) + 8 = 8 * (2 * s + 1) by omega]
theorem at8_app (A B : List Int) (s : Nat) (h : A.length = 8 * s) : at8 (A ++ B) s = B.take 8 := by
  unfold at8
  rw [← h, List.drop_left]
theorem at8_lo (A B : List Int) (s n : Nat) (h : A.length = 8 * n) (hs : s < n) : at8 (A ++ B) s = at8 A s := by
  unfold at8
  rw [List.drop_append_of_le_length (by omega), List.take_append_of_le_length (by rw [List.length_drop]; omega)]
theorem at8_cat (F : Nat → List Int) (hF : ∀ j, (F j).length = 8) (n j : Nat) (hj : j < n) : at8 (cat F n) j = F j := by
  induction n with
  | zero => omega
  | succ n ih =>
    rw [cat_succ]
    by_cases h : j = n
    · subst h
      rw [at8_app _ _ _ (cat_len F hF j), List.take_of_length_le (by rw [hF]; omega)]
    · rw [at8_lo _ _ j n (cat_len F hF n) (by omega)]
      exact ih (by omega)
theorem cat_at8 : ∀ (n : Nat) (l : List Int), l.length = 8 * n → cat (at8 l) n = l
  | 0, l, h => by rw [cat_zero]; exact (List.eq_nil_of_length_eq_zero (by omega)).symm
  | n + 1, l, h => by
    have h1 := cat_at8 n (l.take (8 * n)) (by rw [List.length_take]; omega)
    have h2 : cat (at8 l) n = cat (at8 (l.take (8 * n))) n := cat_ext fun j hj => by
      have h3 := at8_lo (l.take (8 * n)) (l.drop (8 * n)) j n (by rw [List.length_take]; omega) hj
      rw [List.take_append_drop] at h3
      exact h3
    rw [cat_succ, h2, h1]
    unfold at8
    rw [List.take_of_length_le (l := l.drop (8 * n)) (by rw [List.length_drop]; omega), List.take_append_drop]
/-- a list with some of its cells written -/
def splR : List Int → Nat → List Int → List Int
  | xs, _, [] => xs
  | xs, o, y :: r => splR (xs.set o y) (o + 1) r
theorem ba_setCells {b : Nat} {t : TypeId} : ∀ (ys : List Int) {w : World} {xs : List Int} (o : Nat), BA w b t xs → BA (w.setCells b o (bvals ys)) b t (splR xs o ys)
  | [], _, _, _, h => h
  | y :: r, _, _, o, h => ba_setCells r (o + 1) (ba_set h o y)
theorem splR_app : ∀ (ys A B : List Int), ys.length ≤ B.length → splR (A ++ B) A.length ys = A ++ (ys ++ B.drop ys.length)
  | [], A, B, _ => by simp [splR]
  | y :: r, A, b :: B, h => by
    show splR ((A ++ b :: B).set A.length y) (A.length + 1) r = _
    rw [List.set_append_right _ _ (Nat.le_refl _), Nat.sub_self, List.set_cons_zero]
    have := splR_app r (A ++ [y]) B (by simpa using h)
    simp only [List.append_assoc, List.singleton_append, List.length_append, List.length_singleton] at this
    rw [this]
    simp
theorem ba_toList (x : List Int) : (ba x).toList = bvals x := rfl
theorem zeros_drop (n m : Nat) : (zeros n).drop m = zeros (n - m) := by unfold zeros; rw [List.drop_replicate]
theorem heap_setCells {b q : Nat} (h : q ≠ b) : ∀ (vs : List Value) (w : World) (o : Nat), (w.setCells b o vs).heap[q]? = w.heap[q]?
  | [], _, _ => rfl
  | v :: r, w, o => (heap_setCells h r _ (o + 1)).trans (heap_setCell_other w ⟨b, o, none⟩ q v h)
theorem below_setCells {B b : Nat} (hb : B ≤ b) : ∀ (vs : List Value) {w w' : World} (o : Nat), Below B w w' → Below B w (w'.setCells b o vs)
  | [], _, _, _, h => h
  | _ :: r, _, _, o, h => below_setCells hb r (o + 1) (h.setCell hb _)
theorem ba_extract (l : List Int) (o n : Nat) : (ba l).extract o (o + n) = ba ((l.drop o).take n) := by
  apply Array.ext'
  simp [ba, bvals, List.map_drop, List.map_take]
/- sizes, and what they are at first -/
theorem z128 (w : World) : (zeroValue 40).run Tryd.prog w = .ok (.agg (ba (zeros 128))) w := by kernel_rfl
theorem z256 (w : World) : (zeroValue 77).run Tryd.prog w = .ok (.agg (ba (zeros 256))) w := by kernel_rfl
theorem z16 (w : World) : (zeroValue 75).run Tryd.prog w = .ok (.agg (ba (zeros 16))) w := by kernel_rfl
theorem q27 : (Tryd.prog.info? 40).map (·.size) = some 128 := by kernel_rfl
theorem q46 : (Tryd.prog.info? 77).map (·.size) = some 256 := by kernel_rfl
theorem q44 : (Tryd.prog.info? 75).map (·.size) = some 16 := by kernel_rfl
theorem idx46 (pr : List Int) (s : Nat) (hs : s < 16) (w : World) : (Instr.index 77 (.agg (ba pr)) (.int .i64 s)).run Tryd.prog w = .ok (.agg (ba (at16 pr s))) w := by
  have h1 := Tryd.sizeOf75
  have hx := ba_extract pr (s * 16) 16
  have e : s * 16 = 16 * s := by omega
  simp [Instr.index, asIntOf, run_underlying Tryd.underlying77, run_underlying Tryd.underlying75, part, isAgg, h1, at16, hx, hs]
  rw [e]
theorem part_len (p : Int) (n : Nat) (x : List Int) (h : x.length = n) (hn : n ≤ 300000) : (partM p n x).length ≤ 400000 := by
  unfold partM
  simp only [List.length_append, digs_len, h, List.length_singleton]
  omega
theorem sec_le (s : List Int) (x : Int) (i b : Nat) (h : s.length = 8) : (secM s x i b).length ≤ 400000 := by
  unfold secM
  simp only [List.length_append, digs_len, h, List.length_cons, List.length_nil]
  omega
end Go.Proofs.YtfneopmgckejdaaDoor

/-
  A mark; a message's bit.
-/
namespace Go.Proofs.YtfneopmgckejdaaDoor
open Go.RowKit
theorem msg1' (p : Int) (pl : Nat → Nat) (px : Nat → List Int) : msg p pl px 1 = [p] ++ digs (pl 0) 4 ++ px 0 := rfl
theorem msg_oneL (p : Int) (n : Nat) (x : List Int) : msg p (fun _ => n) (fun _ => x) 1 = partM p n x := by rw [msg1']; rfl
theorem prtsN {w : World} {G n c : Nat} {A : Option Addr} {x : List Int} (h : w.heap[G]? = some (.cells #[.slice A n c] 67 (0, 0))) (hs : Src w A n x) (hc : n ≤ c) (hm : c ≤ maxLen) : Prts w (some ⟨G, 0, none⟩) 1 (fun _ => A) (fun _ => n) (fun _ => c) (fun _ => x) := by
  refine ⟨.inr ⟨G, 0, rfl, fun i hi => ?_⟩, fun i hi => hs, fun i hi => ⟨hc, hm⟩⟩
  obtain rfl : i = 0 := by omega
  rw [cell_of_row w G (0 + 0) _ 67 (0, 0) h]
  rfl
attribute [local irreducible] ua da ba kk sw S8.run rt hs comp splice outB sha msg
set_option maxRecDepth 100000 in
set_option maxHeartbeats 4000000 in
theorem lMark (x : List Int) (w : World) (hk : Keys w) (hx : x.length = 8) :
    Calls Tryd.prog 46 #[.agg (ba x)] w fun e w' => e = .returned (.agg (ba (mk x))) ∧ Below w.heap.size w w' := by
  have h4 := z27
  have HK := Lib.hid hk
  have HX := Lib.hid hx
  have HP : Hid (0 < w.heap.size) := keys_pos hk
  clear hk hx
  obtain ⟨S, hS⟩ : ∃ S, w.heap.size = S := ⟨_, rfl⟩
  have T0 : Hid (BA (w.alloc (Obj.cells (ba x) 32)) S 32 x) := by subst hS; exact heap_alloc_last w _
  have T1 : Hid (BA ((w.alloc (Obj.cells (ba x) 32)).alloc (Obj.cells (ba (zeros 8)) 32)) (S + 1) 32 (zeros 8)) := by
    show _ = _
    subst hS
    have := heap_alloc_last (w.alloc (Obj.cells (ba x) 32)) (Obj.cells (ba (zeros 8)) 32)
    simp only [World.size_alloc] at this
    exact this
  have T2 : Hid (BA ((w.alloc (Obj.cells (ba x) 32)).alloc (Obj.cells (ba (zeros 8)) 32)) S 32 x) := (Below.heap_alloc _ _ _ (lt_of_block T0.out)).trans T0.out
  have B0 : Hid (Below S w ((w.alloc (Obj.cells (ba x) 32)).alloc (Obj.cells (ba (zeros 8)) 32))) := by subst hS; exact ((Below.refl _ w).alloc (Nat.le_refl _) _).alloc (by simp) _
  have HS := Lib.hid hS
  go_enter Tryd.func46, Tryd.ntmps46
  go_wp2_with (first
    | (go_at_call 54
       have hz : ((w.alloc (Obj.cells (ba x) 32)).alloc (Obj.cells (ba (zeros 8)) 32)).heap.size = S + 1 + 1 := by simp [hS]
       generalize hw0 : (w.alloc (Obj.cells (ba x) 32)).alloc (Obj.cells (ba (zeros 8)) 32) = w0 at *
       have LS : Hid (S + 1 < w0.heap.size) := lt_of_block T1.out
       have hG := heap_alloc_last w0 (Obj.cells #[.slice (some ⟨S, 0, none⟩) 8 8] 67)
       have BG : Hid (Below S w (w0.alloc (Obj.cells #[.slice (some ⟨S, 0, none⟩) 8 8] 67))) := B0.out.alloc (by have := LS.out; omega) _
       have T4 : Hid (BA (w0.alloc (Obj.cells #[.slice (some ⟨S, 0, none⟩) 8 8] 67)) S 32 x) := (Below.heap_alloc w0 _ S (by have := LS.out; omega)).trans T2.out
       have T5 : Hid (BA (w0.alloc (Obj.cells #[.slice (some ⟨S, 0, none⟩) 8 8] 67)) (S + 1) 32 (zeros 8)) := (Below.heap_alloc w0 _ _ LS.out).trans T1.out
       have KG : Keys (w0.alloc (Obj.cells #[.slice (some ⟨S, 0, none⟩) 8 8] 67)) := keys_below HK.out BG.out (by rw [← hS]; exact HP.out)
       have sx := src_ba (t := 32) T4.out 8 (by rw [HX.out]; omega)
       rw [List.take_of_length_le (by rw [HX.out]; omega)] at sx
       have C := c10 112 (some ⟨w0.heap.size, 0, none⟩) 1 1 _ _ _ _ _ KG (prtsN hG sx (Nat.le_refl _) (by decide)) (by rw [msg_oneL]; exact part_len 112 8 x HX.out (by omega))
       rw [msg_oneL, hz] at C
       refine C.mono ?_
       rintro e w1 ⟨rfl, hb⟩
       have T6 : Hid (BA w1 (S + 1) 32 (zeros 8)) := (hb.block _ (by simp; have := LS.out; omega)).trans T5.out
       have B1 : Hid (Below S w w1) := BG.out.trans (hb.mono (by simp; have := LS.out; omega))
       clear C KG sx hb hG hw0 hS hz)
    | (refine wpList_store_rowTo rfl 32 (.tmp 2) (.tmp 5) rfl rfl (S + 1) (ba ((sha (partM 112 8 x)).take 8)) rfl rfl 32 (ba (zeros 8)) T6.out (sz s27 (by rw [ba_size, take8L])) (by rw [ba_size, ba_size, take8L]; rfl) (ba_one _) ?_)
    | fail)
  refine bodyPost_ret (v := .agg (ba ((sha (partM 112 8 x)).take 8))) (results_cell_row rfl _ _ (S + 1) 32 _ (0, 0) _ rfl (setRow_heap _ _ _ _ _ _ T6.out) Tryd.underlying32 rfl (sz s27 (by rw [ba_size, take8L]))) rfl ⟨rfl, ?_⟩
  rw [HS.out]
  exact below_setRow B1.out (by omega) _
set_option maxRecDepth 100000 in
set_option maxHeartbeats 4000000 in
theorem lBit (m : List Int) (i : Nat) (w : World) (hm : m.length = 8) (hb : Byt m) (hi : i < 16) :
    Calls Tryd.prog 45 #[.agg (ba m), .int .i64 i] w fun e w' => e = .returned (.int .i64 (bt m i)) ∧ Below w.heap.size w w' := by
  obtain ⟨S, hS⟩ : ∃ S, w.heap.size = S := ⟨_, rfl⟩
  have HS := Lib.hid hS
  have T0 : Hid (BA (w.alloc (Obj.cells (ba m) 32)) S 32 m) := by subst hS; exact heap_alloc_last w _
  have B0 : Hid (Below S w (w.alloc (Obj.cells (ba m) 32))) := by subst hS; exact (Below.refl _ w).alloc (Nat.le_refl _) _
  obtain ⟨q, hq⟩ : ∃ q, i / 8 = q := ⟨_, rfl⟩
  obtain ⟨r, hr⟩ : ∃ r, i % 8 = r := ⟨_, rfl⟩
  have hx := byt_getD hb q (by omega)
  have c := ba_cell T0.out q (by omega)
  obtain ⟨x, hxe⟩ : ∃ x, m.getD q 0 = x := ⟨_, rfl⟩
  have HB : Hid (bt m i = x.toNat / 2 ^ r % 2) := by show _ = _; unfold bt; rw [hq, hr, hxe]
  rw [hxe] at hx c
  obtain ⟨n, rfl⟩ := Int.eq_ofNat_of_zero_le hx.1
  have e1 : Int.tdiv (i : Int) 8 = (q : Int) := by rw [Int.tdiv_eq_ediv_of_nonneg (by omega)]; omega
  have e2 : (i : Int) / 8 = (q : Int) := by omega
  have e3 : Int.tmod (i : Int) 8 = (r : Int) := by rw [Int.tmod_eq_emod_of_nonneg (by omega)]; omega
  have e4 : (i : Int) % 8 = (r : Int) := by omega
  have q0 : (0 : Int) ≤ (q : Int) := by omega
  have q1 : (q : Int) < 8 := by omega
  have r0 : (0 : Int) ≤ (r : Int) := by omega
  have r1 : (r : Int) < 8 := by omega
  have rt : (r : Int).toNat = r := by omega
  have rm : min r 8 = r := by omega
  obtain ⟨d, hd⟩ : ∃ d, n / 2 ^ r = d := ⟨_, rfl⟩
  have hd2 : d < 256 := by rw [← hd]; exact Nat.lt_of_le_of_lt (Nat.div_le_self _ _) (by omega)
  have ed : (n : Int) / 2 ^ r = (d : Int) := by rw [← hd]; simp
  have ea := u8_and_nat d 1 hd2 (by omega)
  rw [nat_mask1] at ea
  have HB2 : Hid (bt m i = d % 2) := by show _ = _; rw [HB.out, Int.toNat_natCast, hd]
  have f0 := fun i => free_of T0.out i
  clear hxe hq hr hm hb hi
  go_enter Tryd.func45, Tryd.ntmps45
  go_wp2
  go_ret
  refine ⟨?_, by rw [HS.out]; exact B0.out⟩
  rw [HB2.out]
  have ew : wrap64 (bits BinOp.and IntKind.u8 (d : Int) 1) = ((d % 2 : Nat) : Int) := by
    have e : bits BinOp.and IntKind.u8 (d : Int) 1 = ((d % 2 : Nat) : Int) := ea
    rw [e]
    have : d % 2 < 2 := by omega
    generalize d % 2 = z at *
    unfold wrap64
    omega
  exact congrArg (fun z => Ending.returned (Value.int .i64 z)) ew
end Go.Proofs.YtfneopmgckejdaaDoor

/-
  The key that has these marks.
-/
namespace Go.Proofs.YtfneopmgckejdaaDoor
open Go.RowKit
theorem src_atL {w : World} {b t : Nat} {l : List Int} (h : BA w b t l) (o n : Nat) (hn : o + n ≤ l.length) : Src w (some ⟨b, o, none⟩) n ((l.drop o).take n) := by
  refine ⟨by rw [List.length_take, List.length_drop]; omega, .inr ⟨b, o, rfl, fun i hi => ?_⟩⟩
  rw [ba_cell h (o + i) (by omega)]
  simp [List.getD, hi]
theorem src_fst {w : World} {b t : Nat} {x y : List Int} (h : BA w b t (x ++ y)) (hx : x.length = 8) : Src w (some ⟨b, 0, none⟩) 8 x := by
  have := src_atL h 0 8 (by rw [List.length_append]; omega)
  rw [List.drop_zero, List.take_append_of_le_length (by omega), List.take_of_length_le (by omega)] at this
  exact this
theorem src_snd {w : World} {b t : Nat} {x y : List Int} (h : BA w b t (x ++ y)) (hx : x.length = 8) (hy : y.length = 8) : Src w (some ⟨b, 8, none⟩) 8 y := by
  have := src_atL h 8 8 (by rw [List.length_append]; omega)
  rw [← hx, List.drop_left, List.take_of_length_le (by omega)] at this
  rw [hx] at this
  exact this
attribute [local irreducible] ua da ba kk sw S8.run rt hs comp splice outB sha msg bvals cat at8 at16
set_option maxRecDepth 100000 in
set_option maxHeartbeats 4000000 in
theorem lAll (M : List Int) (w : World) (hk : Keys w) (hM : M.length = 256) :
    Calls Tryd.prog 47 #[.agg (ba M)] w fun e w' => e = .returned (.agg (ba (pubk M))) ∧ Below w.heap.size w w' := by
  obtain ⟨i0, hi, hz0, hz1, hz2⟩ := info_parts info5
  have HI := Lib.hid hi
  have HI0 := Lib.hid hz0
  have HI1 := Lib.hid hz1
  have HI2 := Lib.hid hz2
  clear hi hz0 hz1 hz2
  have h4 := z27
  have h5 := z16
  have HK := Lib.hid hk
  have HM := Lib.hid hM
  have HP : Hid (0 < w.heap.size) := keys_pos hk
  clear hk hM
  obtain ⟨S, hS⟩ : ∃ S, w.heap.size = S := ⟨_, rfl⟩
  have HS := Lib.hid hS
  have T0 : Hid (BA (w.alloc (Obj.cells (ba M) 77)) S 77 M) := by subst hS; exact heap_alloc_last w _
  have T1 : Hid (BA ((w.alloc (Obj.cells (ba M) 77)).alloc (Obj.cells (ba (zeros 8)) 32)) (S + 1) 32 (zeros 8)) := by
    show _ = _
    subst hS
    have := heap_alloc_last (w.alloc (Obj.cells (ba M) 77)) (Obj.cells (ba (zeros 8)) 32)
    simp only [World.size_alloc] at this
    exact this
  have T2 : Hid (BA ((w.alloc (Obj.cells (ba M) 77)).alloc (Obj.cells (ba (zeros 8)) 32)) S 77 M) := (Below.heap_alloc _ _ _ (lt_of_block T0.out)).trans T0.out
  have B0 : Hid (Below S w ((w.alloc (Obj.cells (ba M) 77)).alloc (Obj.cells (ba (zeros 8)) 32))) := by subst hS; exact ((Below.refl _ w).alloc (Nat.le_refl _) _).alloc (by simp) _
  go_enter Tryd.func47, Tryd.ntmps47
  go_wp2_with (first
    | (refine wpList_load_row rfl 77 (.tmp 1) rfl S rfl 77 (ba M) (0, 0) _ T2.out Tryd.underlying77 rfl (sz q46 (by rw [ba_size, HM.out])) ?_)
    | fail)
  have W0 : Hid (((w.alloc (Obj.cells (ba M) 77)).alloc (Obj.cells (ba (zeros 8)) 32)).heap.size = S + 2) := by show _ = _; subst hS; simp
  clear hS T0 T2
  generalize (w.alloc (Obj.cells (ba M) 77)).alloc (Obj.cells (ba (zeros 8)) 32) = w0 at *
  go_loopw [3, 7] (fun v c wr => ∃ (s l : Nat) (A : Option Addr) (cp : Nat), s ≤ 16 ∧ c = .int .i64 s ∧ v = .slice A l cp ∧ l = 16 * s ∧ wr.ownsRow (S + 2) 5 1 (.slice A l cp) l (bvals (cat (at8 M) (2 * s))) ∧ Below (S + 2) w0 wr) (fun _ c _ => 16 - (intOf c).toNat)
  case atStart => exact ⟨0, 0, none, 0, by omega, rfl, rfl, rfl, by rw [Nat.mul_zero, cat_zero]; exact own_nil _ _, Below.refl _ _⟩
  case round =>
    obtain ⟨s, l, A, cp, hs, rfl, rfl, hl, hown, hbel⟩ := hrel
    have OW := Lib.hid hown
    have BB := Lib.hid hbel
    have HL := Lib.hid hl
    clear hown hbel hl
    have ZS : Hid (S + 2 ≤ wr.heap.size) := by show _ ≤ _; have := BB.out.size; have := W0.out; omega
    by_cases hlt : s < 16
    · have hx := idx46 M s hlt
      obtain ⟨a, ha⟩ : ∃ a, at8 M (2 * s) = a := ⟨_, rfl⟩
      obtain ⟨b, hb⟩ : ∃ b, at8 M (2 * s + 1) = b := ⟨_, rfl⟩
      have LA : Hid (a.length = 8) := by rw [← ha]; exact at8_len (n := 32) HM.out (by omega)
      have LB : Hid (b.length = 8) := by rw [← hb]; exact at8_len (n := 32) HM.out (by omega)
      rw [at16_two, ha, hb] at hx
      have HC : Hid (cat (at8 M) (2 * (s + 1)) = cat (at8 M) (2 * s) ++ a ++ b) := by show _ = _; rw [show 2 * (s + 1) = 2 * s + 1 + 1 by omega, cat_succ, cat_succ, ha, hb]
      have s0 : (0 : Int) ≤ (s : Int) := by omega
      have s1 : (s : Int) < 16 := by omega
      have HS16 : Hid (s < 16) := hlt
      obtain ⟨Z, hZ⟩ : ∃ Z, wr.heap.size = Z := ⟨_, rfl⟩
      have O1 : Hid (BA (wr.alloc (Obj.cells (ba (zeros 16)) 75)) Z 75 (zeros 16)) := by show _ = _; rw [← hZ]; exact heap_alloc_last wr _
      have HZ := Lib.hid hZ
      have OL : Hid (∀ q, (Value.slice A l cp).ownBlock = some q → q < Z) := by rw [← hZ]; exact own_lt OW.out
      generalize cat (at8 M) (2 * s) = X at *
      clear ha hb hs hlt
      go_wp2_with (first
        | (refine wpList_store_rowTo rfl 75 (.tmp 5) (.tmp 9) rfl rfl Z (ba (a ++ b)) rfl rfl 75 (ba (zeros 16)) O1.out (sz q44 (by rw [ba_size, List.length_append, LA.out, LB.out])) (by rw [ba_size, ba_size, List.length_append, LA.out, LB.out]; rfl) (ba_one _) ?_
           have B3 : Hid (Below Z wr ((wr.alloc (Obj.cells (ba (zeros 16)) 75)).setRow Z (ba (a ++ b)))) := below_setRow ((Below.refl Z wr).alloc (by omega) _) (Nat.le_refl _) _
           have O3 : Hid (BA ((wr.alloc (Obj.cells (ba (zeros 16)) 75)).setRow Z (ba (a ++ b))) Z 75 (a ++ b)) := setRow_heap _ _ _ _ _ _ O1.out
           clear hZ O1
           generalize (wr.alloc (Obj.cells (ba (zeros 16)) 75)).setRow Z (ba (a ++ b)) = w3 at *
           have OA : Hid (w3.ownsRow (S + 2) 5 1 (.slice A l cp) l (bvals X)) := own_keep OW.out fun q hq => B3.out.block q (OL.out q hq)
           have Z3 : Hid (S + 2 ≤ w3.heap.size) := Nat.le_trans ZS.out (by have := B3.out.size; exact this)
           have LZ : Hid (Z < w3.heap.size) := lt_of_block O3.out
           have SA : Hid (Src w3 (some ⟨Z, 0, none⟩) 8 a) := src_fst O3.out LA.out
           have BS3 : Hid (Below (S + 2) w0 w3) := BB.out.trans (B3.out.mono (by have := ZS.out; have := HZ.out; omega)))
        | (refine wpList_app rfl (.tmp 10) (.tmp 12) 67 rfl i0 Tryd.underlying67 HI.out HI0.out HI1.out HI2.out (S + 2) l (.slice A l cp) X (by simp [Act.eval]) OA.out (some ⟨Z, 0, none⟩) 8 8 a (by simp [Act.eval]) SA.out (by intro h; cases h) (by unfold maxLen; have := HL.out; have := HS16.out; omega) (by have := HL.out; have := HS16.out; omega) Z3.out ?_
           intro A1 c1 w4 hown hg hob
           have OB := Lib.hid hown
           have B4 : Hid (Below (S + 2) w0 w4) := BS3.out.grown hg Z3.out (own_base OA.out)
           have O4 : Hid (BA w4 Z 75 (a ++ b)) := (hg.block Z LZ.out (fun e => by have := OL.out Z e.symm; omega)).trans O3.out
           have SB : Hid (Src w4 (some ⟨Z, 8, none⟩) 8 b) := src_snd O4.out LA.out LB.out
           have Z4 : Hid (S + 2 ≤ w4.heap.size) := Nat.le_trans Z3.out hg.size
           clear hown hg hob)
        | (refine wpList_app rfl (.tmp 14) (.tmp 16) 67 rfl i0 Tryd.underlying67 HI.out HI0.out HI1.out HI2.out (S + 2) (l + 8) (.slice A1 (l + 8) c1) (X ++ a) (by simp [Act.eval]) OB.out (some ⟨Z, 8, none⟩) 8 8 b (by simp [Act.eval]) SB.out (by intro h; cases h) (by unfold maxLen; have := HL.out; have := HS16.out; omega) (by have := HL.out; have := HS16.out; omega) Z4.out ?_
           intro A2 c2 w5 hown hg hob
           have OC := Lib.hid hown
           have B5 : Hid (Below (S + 2) w0 w5) := B4.out.grown hg Z4.out (own_base OB.out)
           clear hown hg hob)
        | fail)
      go_roundw
      case rel => exact ⟨s + 1, l + 8 + 8, A2, c2, by have := HS16.out; omega, by go_num, rfl, by have := HL.out; omega, by rw [HC.out]; exact OC.out, B5.out⟩
      case measure => have := HS16.out; simp [intOf]; omega
    · obtain rfl : s = 16 := by omega
      have HC : Hid (cat (at8 M) (2 * 16) = M) := cat_at8 32 M HM.out
      rw [HC.out] at OW
      have BW : Hid (Below S w wr) := B0.out.trans (BB.out.mono (by omega))
      have T3 : Hid (BA wr (S + 1) 32 (zeros 8)) := (BB.out.block _ (by omega)).trans T1.out
      obtain ⟨Z, hZ⟩ : ∃ Z, wr.heap.size = Z := ⟨_, rfl⟩
      obtain rfl : l = 256 := by have := HL.out; omega
      clear T1 W0 B0 BB
      go_wp2_with (first
        | (go_at_call 54
           have hG := heap_alloc_last wr (Obj.cells #[.slice A 256 cp] 67)
           have BG : Hid (Below S w (wr.alloc (Obj.cells #[.slice A 256 cp] 67))) := BW.out.alloc (by have := ZS.out; omega) _
           have T4 : Hid (BA (wr.alloc (Obj.cells #[.slice A 256 cp] 67)) (S + 1) 32 (zeros 8)) := (Below.heap_alloc wr _ (S + 1) (by have := ZS.out; omega)).trans T3.out
           have KG : Keys (wr.alloc (Obj.cells #[.slice A 256 cp] 67)) := keys_below HK.out BG.out (by rw [← HS.out]; exact HP.out)
           have hso := src_own OW.out
           have sx : Src (wr.alloc (Obj.cells #[.slice A 256 cp] 67)) A 256 M := hso.1.keep fun k hk => Below.heap_alloc wr _ k hk
           have C := c10 107 (some ⟨wr.heap.size, 0, none⟩) 1 1 _ _ _ _ _ KG (prtsN hG sx hso.2.1 hso.2.2.2) (by rw [msg_oneL]; exact part_len 107 256 M HM.out (by omega))
           rw [msg_oneL, hZ] at C
           refine C.mono ?_
           rintro e w1 ⟨rfl, hb⟩
           have T6 : Hid (BA w1 (S + 1) 32 (zeros 8)) := (hb.block _ (by simp; have := ZS.out; omega)).trans T4.out
           have B1 : Hid (Below S w w1) := BG.out.trans (hb.mono (by simp; have := ZS.out; omega))
           clear C KG sx hb hG hZ hso)
        | (refine wpList_store_rowTo rfl 32 (.tmp 2) (.tmp 21) rfl rfl (S + 1) (ba ((sha (partM 107 256 M)).take 8)) rfl rfl 32 (ba (zeros 8)) T6.out (sz s27 (by rw [ba_size, take8L])) (by rw [ba_size, ba_size, take8L]; rfl) (ba_one _) ?_)
        | fail)
      refine bodyPost_ret (v := .agg (ba ((sha (partM 107 256 M)).take 8))) (results_cell_row rfl _ _ (S + 1) 32 _ (0, 0) _ rfl (setRow_heap _ _ _ _ _ _ T6.out) Tryd.underlying32 rfl (sz s27 (by rw [ba_size, take8L]))) rfl ⟨rfl, ?_⟩
      rw [HS.out]
      exact below_setRow B1.out (by omega) _
end Go.Proofs.YtfneopmgckejdaaDoor

/-
  Make: the secrets.
-/
namespace Go.Proofs.YtfneopmgckejdaaDoor
open Go.RowKit
theorem st_mid {w : World} {b o : Nat} {y : List Int} (ht : w.there b o (ba y).size) : Sem.run Tryd.prog (storeCells { block := b, off := o } (ba y).toList) w = .ok () (w.setCells b o (bvals y)) := by
  have := run_storeCells_cells (P := Tryd.prog) b o (ba y).toList 0 w (fun j hj => by simpa using (ht j (by simpa using hj)).1) (fun j hj => by simpa using (ht j (by simpa using hj)).2)
    (fun v hv => (Array.all_eq_true_iff_forall_mem.1 (ba_one y)) v (by simpa using hv))
  rw [Nat.add_zero] at this
  exact this
theorem ba_there {w : World} {b t : Nat} {l : List Int} (h : BA w b t l) (o n : Nat) (hn : o + n ≤ l.length) : w.there b o n := fun j hj => ⟨by rw [ba_cell h (o + j) (by omega)]; rfl, free_of h _⟩
theorem prts2 {w : World} {G n m : Nat} {A B : Option Addr} {x y : List Int} (h : w.heap[G]? = some (.cells #[.slice A n n, .slice B m m] 67 (0, 0))) (hs : Src w A n x) (ht : Src w B m y) (hn : n ≤ maxLen) (hm : m ≤ maxLen) :
    Prts w (some ⟨G, 0, none⟩) 2 (fun i => if i = 0 then A else B) (fun i => if i = 0 then n else m) (fun i => if i = 0 then n else m) (fun i => if i = 0 then x else y) := by
  refine ⟨.inr ⟨G, 0, rfl, fun i hi => ?_⟩, fun i hi => ?_, fun i hi => ?_⟩
  · rw [cell_of_row w G (0 + i) _ 67 (0, 0) h]
    match i, hi with
    | 0, _ => rfl
    | 1, _ => rfl
  · match i, hi with
    | 0, _ => exact hs
    | 1, _ => exact ht
  · match i, hi with
    | 0, _ => exact ⟨Nat.le_refl _, hn⟩
    | 1, _ => exact ⟨Nat.le_refl _, hm⟩
theorem msg_sec (seed : List Int) (x : Int) (i b : Nat) : msg 115 (fun k => if k = 0 then 8 else 4) (fun k => if k = 0 then seed else [x, (i : Int), (b : Int), 0]) 2 = secM seed x i b := by rw [msg2]; rfl
/-- a key's secrets, in their order -/
def keyF (seed : List Int) (x : Int) (j : Nat) : List Int := sec seed x (j / 2) (j % 2)
theorem keyF_len (seed : List Int) (x : Int) (j : Nat) : (keyF seed x j).length = 8 := sec_len _ _ _ _
theorem keyF_at (seed : List Int) (x : Int) (s b : Nat) (hb : b < 2) : keyF seed x (2 * s + b) = sec seed x s b := by unfold keyF; rw [show (2 * s + b) / 2 = s by omega, show (2 * s + b) % 2 = b by omega]
attribute [local irreducible] ua da ba kk sw S8.run rt hs comp splice outB sha msg bvals cat at8 at16 secM zeros
theorem ofSec (seed : List Int) (x : Int) (i b S N G : Nat) (w : World) (hk : Keys w) (hs : seed.length = 8) (h1 : BA w S 32 seed) (h2 : w.heap[N]? = some (.cells #[.int .u8 x, .int .u8 (i : Int), .int .u8 (b : Int), .int .u8 0] 5 (0, 0))) (h3 : w.heap[G]? = some (.cells #[.slice (some ⟨S, 0, none⟩) 8 8, .slice (some ⟨N, 0, none⟩) 4 4] 67 (0, 0))) :
    Calls Tryd.prog 54 #[.int .u8 115, .slice (some ⟨G, 0, none⟩) 2 2] w fun e w' => e = .returned (.agg (ba (sec seed x i b))) ∧ Below w.heap.size w w' := by
  have sx := src_ba (t := 32) h1 8 (by omega)
  rw [List.take_of_length_le (by omega)] at sx
  have sy : Src w (some ⟨N, 0, none⟩) 4 [x, (i : Int), (b : Int), 0] := by
    refine ⟨rfl, .inr ⟨N, 0, rfl, fun k hk => ?_⟩⟩
    rw [cell_of_row w N (0 + k) _ 5 (0, 0) h2]
    match k, hk with
    | 0, _ => rfl
    | 1, _ => rfl
    | 2, _ => rfl
    | 3, _ => rfl
  have C := c10 115 (some ⟨G, 0, none⟩) 2 2 _ _ _ _ w hk (prts2 h3 sx sy (by decide) (by decide)) (by rw [msg_sec]; exact sec_le seed x i b hs)
  rw [msg_sec] at C
  exact C
end Go.Proofs.YtfneopmgckejdaaDoor
