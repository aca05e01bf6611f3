/-
  Words for keys that sign once: rows of hashes by a function, a message's bits, secrets, marks, keys.
-/
import Derived.Test.YtmcmdpbdipgahaaHC
import Derived.Deep.MidRow
import Derived.Laws.BitsAllLaws
namespace Go.Proofs.Ytmcmdpbdipgahaa
open Go.RowKit
/-- one part's digest: what goes in -/
def partM (p : Int) (n : Nat) (x : List Int) : List Int := [p] ++ digs n 4 ++ x
/-- a secret's digest: what goes in -/
def secM (seed : List Int) (x : Int) (i b : Nat) : List Int := [115] ++ digs 8 4 ++ seed ++ digs 4 4 ++ [x, (i : Int), (b : Int), 0]
def mk (x : List Int) : List Int := (sha (partM 112 8 x)).take 8
def pubk (a : List Int) : List Int := (sha (partM 107 256 a)).take 8
def sec (seed : List Int) (x : Int) (i b : Nat) : List Int := (sha (secM seed x i b)).take 8
theorem take8L (m : List Int) : ((sha m).take 8).length = 8 := by rw [List.length_take, sha_len]; rfl
theorem mk_len (x : List Int) : (mk x).length = 8 := take8L _
theorem pubk_len (x : List Int) : (pubk x).length = 8 := take8L _
theorem sec_len (s : List Int) (x : Int) (i b : Nat) : (sec s x i b).length = 8 := take8L _
/-- a message's bit -/
def bt (m : List Int) (i : Nat) : Nat := (m.getD (i / 8) 0).toNat / 2 ^ (i % 8) % 2
theorem bt_two (m : List Int) (i : Nat) : bt m i = 0 ∨ bt m i = 1 := by unfold bt; omega
/-- hashes in a row, by a function -/
def cat (F : Nat → List Int) : Nat → List Int
  | 0 => []
  | n + 1 => cat F n ++ F n
theorem cat_zero (F : Nat → List Int) : cat F 0 = [] := rfl
theorem cat_succ (F : Nat → List Int) (n : Nat) : cat F (n + 1) = cat F n ++ F n := rfl
theorem cat_len (F : Nat → List Int) (hF : ∀ j, (F j).length = 8) : ∀ n, (cat F n).length = 8 * n
  | 0 => rfl
  | n + 1 => by rw [cat_succ, List.length_append, cat_len F hF n, hF]; omega
theorem cat_ext {F G : Nat → List Int} : ∀ {n : Nat}, (∀ j, j < n → F j = G j) → cat F n = cat G n
  | 0, _ => rfl
  | n + 1, h => by rw [cat_succ, cat_succ, cat_ext (n := n) fun j hj => h j (by omega), h n (by omega)]
/-- the hash at a place of a row -/
def at8 (l : List Int) (s : Nat) : List Int := (l.drop (8 * s)).take 8
def at16 (l : List Int) (s : Nat) : List Int := (l.drop (16 * s)).take 16
theorem at8_len {l : List Int} {n s : Nat} (h : l.length = 8 * n) (hs : s < n) : (at8 l s).length = 8 := by unfold at8; rw [List.length_take, List.length_drop]; omega
theorem at16_len {l : List Int} {n s : Nat} (h : l.length = 16 * n) (hs : s < n) : (at16 l s).length = 16 := by unfold at16; rw [List.length_take, List.length_drop]; omega
theorem at16_two (l : List Int) (s : Nat) : at16 l s = at8 l (2 * s) ++ at8 l (2 * s + 1) := by
  unfold at16 at8
  rw [show (16 : Nat) = 8 + 8 from rfl, List.take_add, List.drop_drop, show (8 + 8) * s = 8 * (2 * s) by omega, show 8 * (2 * s) + 8 = 8 * (2 * s + 1) by omega]
theorem at8_app (A B : List Int) (s : Nat) (h : A.length = 8 * s) : at8 (A ++ B) s = B.take 8 := by
  unfold at8
  rw [← h, List.drop_left]
theorem at8_lo (A B : List Int) (s n : Nat) (h : A.length = 8 * n) (hs : s < n) : at8 (A ++ B) s = at8 A s := by
  unfold at8
  rw [List.drop_append_of_le_length (by omega), List.take_append_of_le_length (by rw [List.length_drop]; omega)]
theorem at8_cat (F : Nat → List Int) (hF : ∀ j, (F j).length = 8) (n j : Nat) (hj : j < n) : at8 (cat F n) j = F j := by
  induction n with
  | zero => omega
  | succ n ih =>
    rw [cat_succ]
    by_cases h : j = n
    · subst h
      rw [at8_app _ _ _ (cat_len F hF j), List.take_of_length_le (by rw [hF]; omega)]
    · rw [at8_lo _ _ j n (cat_len F hF n) (by omega)]
      exact ih (by omega)
theorem cat_at8 : ∀ (n : Nat) (l : List Int), l.length = 8 * n → cat (at8 l) n = l
  | 0, l, h => by rw [cat_zero]; exact (List.eq_nil_of_length_eq_zero (by omega)).symm
  | n + 1, l, h => by
    have h1 := cat_at8 n (l.take (8 * n)) (by rw [List.length_take]; omega)
    have h2 : cat (at8 l) n = cat (at8 (l.take (8 * n))) n := cat_ext fun j hj => by
      have h3 := at8_lo (l.take (8 * n)) (l.drop (8 * n)) j n (by rw [List.length_take]; omega) hj
      rw [List.take_append_drop] at h3
      exact h3
    rw [cat_succ, h2, h1]
    unfold at8
    rw [List.take_of_length_le (l := l.drop (8 * n)) (by rw [List.length_drop]; omega), List.take_append_drop]
/-- a list with some of its cells written -/
def splR : List Int → Nat → List Int → List Int
  | xs, _, [] => xs
  | xs, o, y :: r => splR (xs.set o y) (o + 1) r
theorem ba_setCells {b : Nat} {t : TypeId} : ∀ (ys : List Int) {w : World} {xs : List Int} (o : Nat), BA w b t xs → BA (w.setCells b o (bvals ys)) b t (splR xs o ys)
  | [], _, _, _, h => h
  | y :: r, _, _, o, h => ba_setCells r (o + 1) (ba_set h o y)
theorem splR_app : ∀ (ys A B : List Int), ys.length ≤ B.length → splR (A ++ B) A.length ys = A ++ (ys ++ B.drop ys.length)
  | [], A, B, _ => by simp [splR]
  | y :: r, A, b :: B, h => by
    show splR ((A ++ b :: B).set A.length y) (A.length + 1) r = _
    rw [List.set_append_right _ _ (Nat.le_refl _), Nat.sub_self, List.set_cons_zero]
    have := splR_app r (A ++ [y]) B (by simpa using h)
    simp only [List.append_assoc, List.singleton_append, List.length_append, List.length_singleton] at this
    rw [this]
    simp
theorem ba_toList (x : List Int) : (ba x).toList = bvals x := rfl
theorem zeros_drop (n m : Nat) : (zeros n).drop m = zeros (n - m) := by unfold zeros; rw [List.drop_replicate]
theorem heap_setCells {b q : Nat} (h : q ≠ b) : ∀ (vs : List Value) (w : World) (o : Nat), (w.setCells b o vs).heap[q]? = w.heap[q]?
  | [], _, _ => rfl
  | v :: r, w, o => (heap_setCells h r _ (o + 1)).trans (heap_setCell_other w ⟨b, o, none⟩ q v h)
theorem below_setCells {B b : Nat} (hb : B ≤ b) : ∀ (vs : List Value) {w w' : World} (o : Nat), Below B w w' → Below B w (w'.setCells b o vs)
  | [], _, _, _, h => h
  | _ :: r, _, _, o, h => below_setCells hb r (o + 1) (h.setCell hb _)
theorem ba_extract (l : List Int) (o n : Nat) : (ba l).extract o (o + n) = ba ((l.drop o).take n) := by
  apply Array.ext'
  simp [ba, bvals, List.map_drop, List.map_take]
/- sizes, and what they are at first -/
theorem z128 (w : World) : (zeroValue 95).run Try.prog w = .ok (.agg (ba (zeros 128))) w := by kernel_rfl
theorem q27 : (Try.prog.info? 95).map (·.size) = some 128 := by kernel_rfl
theorem part_len (p : Int) (n : Nat) (x : List Int) (h : x.length = n) (hn : n ≤ 300000) : (partM p n x).length ≤ 400000 := by
  unfold partM
  simp only [List.length_append, digs_len, h, List.length_singleton]
  omega
theorem sec_le (s : List Int) (x : Int) (i b : Nat) (h : s.length = 8) : (secM s x i b).length ≤ 400000 := by
  unfold secM
  simp only [List.length_append, digs_len, h, List.length_cons, List.length_nil]
  omega
end Go.Proofs.Ytmcmdpbdipgahaa

/-
  A mark; a message's bit.
-/
namespace Go.Proofs.Ytmcmdpbdipgahaa
open Go.RowKit
theorem msg1' (p : Int) (pl : Nat → Nat) (px : Nat → List Int) : msg p pl px 1 = [p] ++ digs (pl 0) 4 ++ px 0 := rfl
theorem msg_oneL (p : Int) (n : Nat) (x : List Int) : msg p (fun _ => n) (fun _ => x) 1 = partM p n x := by rw [msg1']; rfl
theorem prtsN {w : World} {G n c : Nat} {A : Option Addr} {x : List Int} (h : w.heap[G]? = some (.cells #[.slice A n c] 106 (0, 0))) (hs : Src w A n x) (hc : n ≤ c) (hm : c ≤ maxLen) : Prts w (some ⟨G, 0, none⟩) 1 (fun _ => A) (fun _ => n) (fun _ => c) (fun _ => x) := by
  refine ⟨.inr ⟨G, 0, rfl, fun i hi => ?_⟩, fun i hi => hs, fun i hi => ⟨hc, hm⟩⟩
  obtain rfl : i = 0 := by omega
  rw [cell_of_row w G (0 + 0) _ 106 (0, 0) h]
  rfl
attribute [local irreducible] ua da ba kk sw S8.run rt hs comp splice outB sha msg

end Go.Proofs.Ytmcmdpbdipgahaa

/-
  The key that has these marks.
-/
namespace Go.Proofs.Ytmcmdpbdipgahaa
open Go.RowKit
theorem src_atL {w : World} {b t : Nat} {l : List Int} (h : BA w b t l) (o n : Nat) (hn : o + n ≤ l.length) : Src w (some ⟨b, o, none⟩) n ((l.drop o).take n) := by
  refine ⟨by rw [List.length_take, List.length_drop]; omega, .inr ⟨b, o, rfl, fun i hi => ?_⟩⟩
  rw [ba_cell h (o + i) (by omega)]
  simp [List.getD, hi]
theorem src_fst {w : World} {b t : Nat} {x y : List Int} (h : BA w b t (x ++ y)) (hx : x.length = 8) : Src w (some ⟨b, 0, none⟩) 8 x := by
  have := src_atL h 0 8 (by rw [List.length_append]; omega)
  rw [List.drop_zero, List.take_append_of_le_length (by omega), List.take_of_length_le (by omega)] at this
  exact this
theorem src_snd {w : World} {b t : Nat} {x y : List Int} (h : BA w b t (x ++ y)) (hx : x.length = 8) (hy : y.length = 8) : Src w (some ⟨b, 8, none⟩) 8 y := by
  have := src_atL h 8 8 (by rw [List.length_append]; omega)
  rw [← hx, List.drop_left, List.take_of_length_le (by omega)] at this
  rw [hx] at this
  exact this
attribute [local irreducible] ua da ba kk sw S8.run rt hs comp splice outB sha msg bvals cat at8 at16

end Go.Proofs.Ytmcmdpbdipgahaa

/-
  Make: the secrets.
-/
namespace Go.Proofs.Ytmcmdpbdipgahaa
open Go.RowKit
theorem st_mid {w : World} {b o : Nat} {y : List Int} (ht : w.there b o (ba y).size) : Sem.run Try.prog (storeCells { block := b, off := o } (ba y).toList) w = .ok () (w.setCells b o (bvals y)) := by
  have := run_storeCells_cells (P := Try.prog) b o (ba y).toList 0 w (fun j hj => by simpa using (ht j (by simpa using hj)).1) (fun j hj => by simpa using (ht j (by simpa using hj)).2)
    (fun v hv => (Array.all_eq_true_iff_forall_mem.1 (ba_one y)) v (by simpa using hv))
  rw [Nat.add_zero] at this
  exact this
theorem ba_there {w : World} {b t : Nat} {l : List Int} (h : BA w b t l) (o n : Nat) (hn : o + n ≤ l.length) : w.there b o n := fun j hj => ⟨by rw [ba_cell h (o + j) (by omega)]; rfl, free_of h _⟩
theorem prts2 {w : World} {G n m : Nat} {A B : Option Addr} {x y : List Int} (h : w.heap[G]? = some (.cells #[.slice A n n, .slice B m m] 106 (0, 0))) (hs : Src w A n x) (ht : Src w B m y) (hn : n ≤ maxLen) (hm : m ≤ maxLen) :
    Prts w (some ⟨G, 0, none⟩) 2 (fun i => if i = 0 then A else B) (fun i => if i = 0 then n else m) (fun i => if i = 0 then n else m) (fun i => if i = 0 then x else y) := by
  refine ⟨.inr ⟨G, 0, rfl, fun i hi => ?_⟩, fun i hi => ?_, fun i hi => ?_⟩
  · rw [cell_of_row w G (0 + i) _ 106 (0, 0) h]
    match i, hi with
    | 0, _ => rfl
    | 1, _ => rfl
  · match i, hi with
    | 0, _ => exact hs
    | 1, _ => exact ht
  · match i, hi with
    | 0, _ => exact ⟨Nat.le_refl _, hn⟩
    | 1, _ => exact ⟨Nat.le_refl _, hm⟩
theorem msg_sec (seed : List Int) (x : Int) (i b : Nat) : msg 115 (fun k => if k = 0 then 8 else 4) (fun k => if k = 0 then seed else [x, (i : Int), (b : Int), 0]) 2 = secM seed x i b := by rw [msg2]; rfl
/-- a key's secrets, in their order -/
def keyF (seed : List Int) (x : Int) (j : Nat) : List Int := sec seed x (j / 2) (j % 2)
theorem keyF_len (seed : List Int) (x : Int) (j : Nat) : (keyF seed x j).length = 8 := sec_len _ _ _ _
theorem keyF_at (seed : List Int) (x : Int) (s b : Nat) (hb : b < 2) : keyF seed x (2 * s + b) = sec seed x s b := by unfold keyF; rw [show (2 * s + b) / 2 = s by omega, show (2 * s + b) % 2 = b by omega]
attribute [local irreducible] ua da ba kk sw S8.run rt hs comp splice outB sha msg bvals cat at8 at16 secM zeros

end Go.Proofs.Ytmcmdpbdipgahaa
