/-
  The root of a row, in words; a leaf's own.
-/
import Derived.Test.YthdejiadokpafaaDoorM1
namespace Go.Proofs.YthdejiadokpafaaDoor
open Go.RowKit
def oneM (p : Int) (x : List Int) : List Int := [p] ++ digs 8 4 ++ x
def leafH (x : List Int) : List Int := (sha (oneM 108 x)).take 8
def twoH (x y : List Int) : List Int := (sha (twoM 109 x y)).take 8
def rootF : Nat → List Int → List Int
  | 0, _ => zeros 8
  | f + 1, l => if l.length ≤ 8 then leafH l else twoH (rootF f (l.take (8 * cutN (l.length / 8)))) (rootF f (l.drop (8 * cutN (l.length / 8))))
theorem take8_len (m : List Int) : ((sha m).take 8).length = 8 := by rw [List.length_take, sha_len]; rfl
theorem rootF_len : ∀ (f : Nat) (l : List Int), (rootF f l).length = 8
  | 0, _ => zeros_len 8
  | f + 1, l => by
    rw [rootF]
    split
    · exact take8_len _
    · exact take8_len _
theorem rootF_one (f : Nat) (l : List Int) (h : l.length = 8 * 1) : rootF (f + 1) l = leafH l := by rw [rootF, if_pos (by omega)]
theorem rootF_two (f : Nat) (l : List Int) (n : Nat) (h : l.length = 8 * n) (hn : 2 ≤ n) : rootF (f + 1) l = twoH (rootF f (l.take (8 * cutN n))) (rootF f (l.drop (8 * cutN n))) := by
  rw [rootF, if_neg (by omega), h, Nat.mul_div_cancel_left n (by decide)]
theorem rootF_fuel : ∀ (f g : Nat) (l : List Int) (n : Nat), l.length = 8 * n → 1 ≤ n → n ≤ f → n ≤ g → n ≤ 65536 → rootF f l = rootF g l
  | 0, _, _, n, _, h1, h2, _, _ => by omega
  | _, 0, _, n, _, h1, _, h3, _ => by omega
  | f + 1, g + 1, l, n, hl, h1, h2, h3, h4 => by
    by_cases hn : n = 1
    · subst hn
      rw [rootF_one f l hl, rootF_one g l hl]
    · obtain ⟨c1, c2, _⟩ := cutN_lo n (by omega) h4
      rw [rootF_two f l n hl (by omega), rootF_two g l n hl (by omega)]
      rw [rootF_fuel f g _ (cutN n) (by rw [List.length_take]; omega) c1 (by omega) (by omega) (by omega)]
      rw [rootF_fuel f g _ (n - cutN n) (by rw [List.length_drop]; omega) (by omega) (by omega) (by omega) (by omega)]
theorem src_take {w : World} {A : Option Addr} {n : Nat} {l : List Int} (h : Src w A (8 * n) l) (k : Nat) (hk : k ≤ n) : Src w A (8 * k) (l.take (8 * k)) := by
  obtain ⟨hl, h2⟩ := h
  refine ⟨by rw [List.length_take]; omega, ?_⟩
  rcases h2 with h2 | ⟨g, o, h3, hc⟩
  · exact .inl (by omega)
  · refine .inr ⟨g, o, h3, fun i hi => ?_⟩
    rw [hc i (by omega)]
    simp [List.getD, hi]
theorem src_drop {w : World} {g o : Nat} {n : Nat} {l : List Int} (h : Src w (some ⟨g, o, none⟩) (8 * n) l) (k : Nat) (hk : k < n) : Src w (some ⟨g, o + k * 8, none⟩) (8 * (n - k)) (l.drop (8 * k)) := by
  obtain ⟨hl, h2⟩ := h
  refine ⟨by rw [List.length_drop]; omega, ?_⟩
  rcases h2 with h2 | ⟨g', o', h3, hc⟩
  · omega
  · cases h3
    refine .inr ⟨g, o + k * 8, rfl, fun i hi => ?_⟩
    rw [show o + k * 8 + i = o + (8 * k + i) by omega, hc (8 * k + i) (by omega)]
    simp [List.getD]
theorem msg_one (p : Int) (x : List Int) : msg p (fun _ => 8) (fun _ => x) 1 = oneM p x := by rw [msg1, msg0]; rfl
theorem oneM_len (p : Int) (x : List Int) (h : x.length = 8) : (oneM p x).length ≤ 400000 := by
  unfold oneM
  simp only [List.length_append, digs_len, h, List.length_singleton]
  omega
theorem twoM_len (p : Int) (x y : List Int) (h : x.length = 8) (h2 : y.length = 8) : (twoM p x y).length ≤ 400000 := by
  unfold twoM
  simp only [List.length_append, digs_len, h, h2, List.length_singleton]
  omega
theorem prts8 {w : World} {G : Nat} {A : Option Addr} {x : List Int} (h : w.heap[G]? = some (.cells #[.slice A 8 8] 38 (0, 0))) (hs : Src w A 8 x) : Prts w (some ⟨G, 0, none⟩) 1 (fun _ => A) (fun _ => 8) (fun _ => 8) (fun _ => x) := by
  refine ⟨.inr ⟨G, 0, rfl, fun i hi => ?_⟩, fun i hi => hs, fun i hi => ⟨by omega, by omega⟩⟩
  obtain rfl : i = 0 := by omega
  rw [cell_of_row w G (0 + 0) _ 38 (0, 0) h]
  rfl
attribute [local irreducible] ua da ba kk sw S8.run rt hs comp splice outB sha msg
set_option maxRecDepth 100000 in
set_option maxHeartbeats 4000000 in
theorem p27 (x : List Int) (w : World) (hk : Keys w) (hx : x.length = 8) :
    Calls Tryd.prog 27 #[.agg (ba x)] w fun e w' => e = .returned (.agg (ba (leafH x))) ∧ Below w.heap.size w w' := by
  have h4 := z27
  have HK := Lib.hid hk
  have HX := Lib.hid hx
  have HP : Hid (0 < w.heap.size) := keys_pos hk
  clear hk hx
  obtain ⟨S, hS⟩ : ∃ S, w.heap.size = S := ⟨_, rfl⟩
  have T0 : Hid (BA (w.alloc (Obj.cells (ba x) 27)) S 27 x) := by subst hS; exact heap_alloc_last w _
  have T1 : Hid (BA ((w.alloc (Obj.cells (ba x) 27)).alloc (Obj.cells (ba (zeros 8)) 27)) (S + 1) 27 (zeros 8)) := by
    show _ = _
    subst hS
    have := heap_alloc_last (w.alloc (Obj.cells (ba x) 27)) (Obj.cells (ba (zeros 8)) 27)
    simp only [World.size_alloc] at this
    exact this
  have T2 : Hid (BA ((w.alloc (Obj.cells (ba x) 27)).alloc (Obj.cells (ba (zeros 8)) 27)) S 27 x) := (Below.heap_alloc _ _ _ (lt_of_block T0.out)).trans T0.out
  have B0 : Hid (Below S w ((w.alloc (Obj.cells (ba x) 27)).alloc (Obj.cells (ba (zeros 8)) 27))) := by subst hS; exact ((Below.refl _ w).alloc (Nat.le_refl _) _).alloc (by simp) _
  have HS := Lib.hid hS
  go_enter Tryd.func27, Tryd.ntmps27
  go_wp2_with (first
    | (go_at_call 33
       have hz : ((w.alloc (Obj.cells (ba x) 27)).alloc (Obj.cells (ba (zeros 8)) 27)).heap.size = S + 1 + 1 := by simp [hS]
       generalize hw0 : (w.alloc (Obj.cells (ba x) 27)).alloc (Obj.cells (ba (zeros 8)) 27) = w0 at *
       have LS : Hid (S + 1 < w0.heap.size) := lt_of_block T1.out
       have hG := heap_alloc_last w0 (Obj.cells #[.slice (some ⟨S, 0, none⟩) 8 8] 38)
       have BG : Hid (Below S w (w0.alloc (Obj.cells #[.slice (some ⟨S, 0, none⟩) 8 8] 38))) := B0.out.alloc (by have := LS.out; omega) _
       have T4 : Hid (BA (w0.alloc (Obj.cells #[.slice (some ⟨S, 0, none⟩) 8 8] 38)) S 27 x) := (Below.heap_alloc w0 _ S (by have := LS.out; omega)).trans T2.out
       have T5 : Hid (BA (w0.alloc (Obj.cells #[.slice (some ⟨S, 0, none⟩) 8 8] 38)) (S + 1) 27 (zeros 8)) := (Below.heap_alloc w0 _ _ LS.out).trans T1.out
       have KG : Keys (w0.alloc (Obj.cells #[.slice (some ⟨S, 0, none⟩) 8 8] 38)) := keys_below HK.out BG.out (by rw [← hS]; exact HP.out)
       have sx := src_ba (t := 27) T4.out 8 (by rw [HX.out]; omega)
       rw [List.take_of_length_le (by rw [HX.out]; omega)] at sx
       have C := c10 108 (some ⟨w0.heap.size, 0, none⟩) 1 1 _ _ _ _ _ KG (prts8 hG sx) (by rw [msg_one]; exact oneM_len 108 x HX.out)
       rw [msg_one, hz] at C
       refine C.mono ?_
       rintro e w1 ⟨rfl, hb⟩
       have T6 : Hid (BA w1 (S + 1) 27 (zeros 8)) := (hb.block _ (by simp; have := LS.out; omega)).trans T5.out
       have B1 : Hid (Below S w w1) := BG.out.trans (hb.mono (by simp; have := LS.out; omega))
       clear C KG sx hb hG hw0 hS hz)
    | (refine wpList_store_rowTo rfl 27 (.tmp 2) (.tmp 5) rfl rfl (S + 1) (ba ((sha (oneM 108 x)).take 8)) rfl rfl 27 (ba (zeros 8)) T6.out (sz s27 (by rw [ba_size, take8_len])) (by rw [ba_size, ba_size, take8_len]; rfl) (ba_one _) ?_)
    | fail)
  refine bodyPost_ret (v := .agg (ba ((sha (oneM 108 x)).take 8))) (results_cell_row rfl _ _ (S + 1) 27 _ (0, 0) _ rfl (setRow_heap _ _ _ _ _ _ T6.out) Tryd.underlying27 rfl (sz s27 (by rw [ba_size, take8_len]))) rfl ⟨rfl, ?_⟩
  rw [HS.out]
  exact below_setRow B1.out (by omega) _
end Go.Proofs.YthdejiadokpafaaDoor
