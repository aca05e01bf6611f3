/-
  Words for keys that sign once: rows of hashes by a function, a message's bits, secrets, marks, keys.
-/
import Derived.Test.YtimfinachecadaaDoorH14
import Derived.Test.YtimfinachecadaaDoorH19
import Derived.Deep.MidRow
import Derived.Laws.BitsAllLaws
namespace Go.Proofs.YtimfinachecadaaDoor
open Go.RowKit
/-- one part's digest: what goes in -/
def partM (p : Int) (n : Nat) (x : List Int) : List Int := [p] ++ digs n 4 ++ x
/-- a secret's digest: what goes in -/
def secM (seed : List Int) (x : Int) (i b : Nat) : List Int := [115] ++ digs 8 4 ++ seed ++ digs 4 4 ++ [x, (i : Int), (b : Int), 0]
def mk (x : List Int) : List Int := (sha (partM 112 8 x)).take 8
def pubk (a : List Int) : List Int := (sha (partM 107 256 a)).take 8
def sec (seed : List Int) (x : Int) (i b : Nat) : List Int := (sha (secM seed x i b)).take 8
theorem take8_len (m : List Int) : ((sha m).take 8).length = 8 := by rw [List.length_take, sha_len]; rfl
theorem mk_len (x : List Int) : (mk x).length = 8 := take8_len _
theorem pubk_len (x : List Int) : (pubk x).length = 8 := take8_len _
theorem sec_len (s : List Int) (x : Int) (i b : Nat) : (sec s x i b).length = 8 := take8_len _
/-- a message's bit -/
def bt (m : List Int) (i : Nat) : Nat := (m.getD (i / 8) 0).toNat / 2 ^ (i % 8) % 2
theorem bt_two (m : List Int) (i : Nat) : bt m i = 0 ∨ bt m i = 1 := by unfold bt; omega
/-- hashes in a row, by a function -/
def cat (F : Nat → List Int) : Nat → List Int
  | 0 => []
  | n + 1 => cat F n ++ F n
theorem cat_zero (F : Nat → List Int) : cat F 0 = [] := rfl
theorem cat_succ (F : Nat → List Int) (n : Nat) : cat F (n + 1) = cat F n ++ F n := rfl
theorem cat_len (F : Nat → List Int) (hF : ∀ j, (F j).length = 8) : ∀ n, (cat F n).length = 8 * n
  | 0 => rfl
  | n + 1 => by rw [cat_succ, List.length_append, cat_len F hF n, hF]; omega
theorem cat_ext {F G : Nat → List Int} : ∀ {n : Nat}, (∀ j, j < n → F j = G j) → cat F n = cat G n
  | 0, _ => rfl
  | n + 1, h => by rw [cat_succ, cat_succ, cat_ext (n := n) fun j hj => h j (by omega), h n (by omega)]
/-- the hash at a place of a row -/
def at8 (l : List Int) (s : Nat) : List Int := (l.drop (8 * s)).take 8
def at16 (l : List Int) (s : Nat) : List Int := (l.drop (16 * s)).take 16
theorem at8_len {l : List Int} {n s : Nat} (h : l.length = 8 * n) (hs : s < n) : (at8 l s).length = 8 := by unfold at8; rw [List.length_take, List.length_drop]; omega
theorem at16_len {l : List Int} {n s : Nat} (h : l.length = 16 * n) (hs : s < n) : (at16 l s).length = 16 := by unfold at16; rw [List.length_take, List.length_drop]; omega
theorem at16_two (l : List Int) (s : Nat) : at16 l s = at8 l (2 * s) ++ at8 l (2 * s + 1) := by
  unfold at16 at8
  rw [show (16 : Nat) = 8 + 8 from rfl, List.take_add, List.drop_drop, show (8 + 8) * s = 8 * (2 * s) by omega, show 8 * (2 * s) + 8 = 8 * (2 * s + 1) by omega]
theorem at8_app (A B : List Int) (s : Nat) (h : A.length = 8 * s) : at8 (A ++ B) s = B.take 8 := by
  unfold at8
  rw [← h, List.drop_left]
theorem at8_lo (A B : List Int) (s n : Nat) (h : A.length = 8 * n) (hs : s < n) : at8 (A ++ B) s = at8 A s := by
  unfold at8
  rw [List.drop_append_of_le_length (by omega), List.take_append_of_le_length (by rw [List.length_drop]; omega)]
theorem at8_cat (F : Nat → List Int) (hF : ∀ j, (F j).length = 8) (n j : Nat) (hj : j < n) : at8 (cat F n) j = F j := by
  induction n with
  | zero => omega
  | succ n ih =>
    rw [cat_succ]
    by_cases h : j = n
    · subst h
      rw [at8_app _ _ _ (cat_len F hF j), List.take_of_length_le (by rw [hF]; omega)]
    · rw [at8_lo _ _ j n (cat_len F hF n) (by omega)]
      exact ih (by omega)
theorem cat_at8 : ∀ (n : Nat) (l : List Int), l.length = 8 * n → cat (at8 l) n = l
  | 0, l, h => by rw [cat_zero]; exact (List.eq_nil_of_length_eq_zero (by omega)).symm
  | n + 1, l, h => by
    have h1 := cat_at8 n (l.take (8 * n)) (by rw [List.length_take]; omega)
    have h2 : cat (at8 l) n = cat (at8 (l.take (8 * n))) n := cat_ext fun j hj => by
      have h3 := at8_lo (l.take (8 * n)) (l.drop (8 * n)) j n (by rw [List.length_take]; omega) hj
      rw [List.take_append_drop] at h3
      exact h3
    rw [cat_succ, h2, h1]
    unfold at8
    rw [List.take_of_length_le (l := l.drop (8 * n)) (by rw [List.length_drop]; omega), List.take_append_drop]
/-- a list with some of its cells written -/
def splR : List Int → Nat → List Int → List Int
  | xs, _, [] => xs
  | xs, o, y :: r => splR (xs.set o y) (o + 1) r
theorem ba_setCells {b : Nat} {t : TypeId} : ∀ (ys : List Int) {w : World} {xs : List Int} (o : Nat), BA w b t xs → BA (w.setCells b o (bvals ys)) b t (splR xs o ys)
  | [], _, _, _, h => h
  | y :: r, _, _, o, h => ba_setCells r (o + 1) (ba_set h o y)
theorem splR_app : ∀ (ys A B : List Int), ys.length ≤ B.length → splR (A ++ B) A.length ys = A ++ (ys ++ B.drop ys.length)
  | [], A, B, _ => by simp [splR]
  | y :: r, A, b :: B, h => by
    show splR ((A ++ b :: B).set A.length y) (A.length + 1) r = _
    rw [List.set_append_right _ _ (Nat.le_refl _), Nat.sub_self, List.set_cons_zero]
    have := splR_app r (A ++ [y]) B (by simpa using h)
    simp only [List.append_assoc, List.singleton_append, List.length_append, List.length_singleton] at this
    rw [this]
    simp
theorem ba_toList (x : List Int) : (ba x).toList = bvals x := rfl
theorem zeros_drop (n m : Nat) : (zeros n).drop m = zeros (n - m) := by unfold zeros; rw [List.drop_replicate]
theorem heap_setCells {b q : Nat} (h : q ≠ b) : ∀ (vs : List Value) (w : World) (o : Nat), (w.setCells b o vs).heap[q]? = w.heap[q]?
  | [], _, _ => rfl
  | v :: r, w, o => (heap_setCells h r _ (o + 1)).trans (heap_setCell_other w ⟨b, o, none⟩ q v h)
theorem below_setCells {B b : Nat} (hb : B ≤ b) : ∀ (vs : List Value) {w w' : World} (o : Nat), Below B w w' → Below B w (w'.setCells b o vs)
  | [], _, _, _, h => h
  | _ :: r, _, _, o, h => below_setCells hb r (o + 1) (h.setCell hb _)
theorem ba_extract (l : List Int) (o n : Nat) : (ba l).extract o (o + n) = ba ((l.drop o).take n) := by
  apply Array.ext'
  simp [ba, bvals, List.map_drop, List.map_take]
/- sizes, and what they are at first -/
theorem z128 (w : World) : (zeroValue 27).run Tryd.prog w = .ok (.agg (ba (zeros 128))) w := by kernel_rfl
theorem z256 (w : World) : (zeroValue 46).run Tryd.prog w = .ok (.agg (ba (zeros 256))) w := by kernel_rfl
theorem z16 (w : World) : (zeroValue 44).run Tryd.prog w = .ok (.agg (ba (zeros 16))) w := by kernel_rfl
theorem q27 : (Tryd.prog.info? 27).map (·.size) = some 128 := by kernel_rfl
theorem q46 : (Tryd.prog.info? 46).map (·.size) = some 256 := by kernel_rfl
theorem q48 : (Tryd.prog.info? 48).map (·.size) = some 256 := by kernel_rfl
theorem q44 : (Tryd.prog.info? 44).map (·.size) = some 16 := by kernel_rfl
theorem b48 (w : World) : (Instr.build 48 #[]).run Tryd.prog w = .ok (.agg (ba (zeros 256))) w := by kernel_rfl
theorem idx46 (pr : List Int) (s : Nat) (hs : s < 16) (w : World) : (Instr.index 46 (.agg (ba pr)) (.int .i64 s)).run Tryd.prog w = .ok (.agg (ba (at16 pr s))) w := by
  have h1 := Tryd.sizeOf44
  have hx := ba_extract pr (s * 16) 16
  have e : s * 16 = 16 * s := by omega
  simp [Instr.index, asIntOf, run_underlying Tryd.underlying46, run_underlying Tryd.underlying44, part, isAgg, h1, at16, hx, hs]
  rw [e]
theorem part_len (p : Int) (n : Nat) (x : List Int) (h : x.length = n) (hn : n ≤ 300000) : (partM p n x).length ≤ 400000 := by
  unfold partM
  simp only [List.length_append, digs_len, h, List.length_singleton]
  omega
theorem sec_le (s : List Int) (x : Int) (i b : Nat) (h : s.length = 8) : (secM s x i b).length ≤ 400000 := by
  unfold secM
  simp only [List.length_append, digs_len, h, List.length_cons, List.length_nil]
  omega
end Go.Proofs.YtimfinachecadaaDoor
