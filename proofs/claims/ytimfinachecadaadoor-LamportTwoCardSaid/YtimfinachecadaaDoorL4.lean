/-
  Make: the secrets.
-/
import Derived.Test.YtimfinachecadaaDoorL3
namespace Go.Proofs.YtimfinachecadaaDoor
open Go.RowKit
theorem zk48 (w : World) : (zeroValue 48).run Tryd.prog w = .ok (.agg (ba (zeros 256))) w := by kernel_rfl
theorem st_mid {w : World} {b o : Nat} {y : List Int} (ht : w.there b o (ba y).size) : Sem.run Tryd.prog (storeCells { block := b, off := o } (ba y).toList) w = .ok () (w.setCells b o (bvals y)) := by
  have := run_storeCells_cells (P := Tryd.prog) b o (ba y).toList 0 w (fun j hj => by simpa using (ht j (by simpa using hj)).1) (fun j hj => by simpa using (ht j (by simpa using hj)).2)
    (fun v hv => (Array.all_eq_true_iff_forall_mem.1 (ba_one y)) v (by simpa using hv))
  rw [Nat.add_zero] at this
  exact this
theorem ba_there {w : World} {b t : Nat} {l : List Int} (h : BA w b t l) (o n : Nat) (hn : o + n ≤ l.length) : w.there b o n := fun j hj => ⟨by rw [ba_cell h (o + j) (by omega)]; rfl, free_of h _⟩
theorem prts2 {w : World} {G n m : Nat} {A B : Option Addr} {x y : List Int} (h : w.heap[G]? = some (.cells #[.slice A n n, .slice B m m] 38 (0, 0))) (hs : Src w A n x) (ht : Src w B m y) (hn : n ≤ maxLen) (hm : m ≤ maxLen) :
    Prts w (some ⟨G, 0, none⟩) 2 (fun i => if i = 0 then A else B) (fun i => if i = 0 then n else m) (fun i => if i = 0 then n else m) (fun i => if i = 0 then x else y) := by
  refine ⟨.inr ⟨G, 0, rfl, fun i hi => ?_⟩, fun i hi => ?_, fun i hi => ?_⟩
  · rw [cell_of_row w G (0 + i) _ 38 (0, 0) h]
    match i, hi with
    | 0, _ => rfl
    | 1, _ => rfl
  · match i, hi with
    | 0, _ => exact hs
    | 1, _ => exact ht
  · match i, hi with
    | 0, _ => exact ⟨Nat.le_refl _, hn⟩
    | 1, _ => exact ⟨Nat.le_refl _, hm⟩
theorem msg_sec (seed : List Int) (x : Int) (i b : Nat) : msg 115 (fun k => if k = 0 then 8 else 4) (fun k => if k = 0 then seed else [x, (i : Int), (b : Int), 0]) 2 = secM seed x i b := by rw [msg2]; rfl
/-- a key's secrets, in their order -/
def keyF (seed : List Int) (x : Int) (j : Nat) : List Int := sec seed x (j / 2) (j % 2)
theorem keyF_len (seed : List Int) (x : Int) (j : Nat) : (keyF seed x j).length = 8 := sec_len _ _ _ _
theorem keyF_at (seed : List Int) (x : Int) (s b : Nat) (hb : b < 2) : keyF seed x (2 * s + b) = sec seed x s b := by unfold keyF; rw [show (2 * s + b) / 2 = s by omega, show (2 * s + b) % 2 = b by omega]
attribute [local irreducible] ua da ba kk sw S8.run rt hs comp splice outB sha msg bvals cat at8 at16 secM zeros
theorem ofSec (seed : List Int) (x : Int) (i b S N G : Nat) (w : World) (hk : Keys w) (hs : seed.length = 8) (h1 : BA w S 23 seed) (h2 : w.heap[N]? = some (.cells #[.int .u8 x, .int .u8 (i : Int), .int .u8 (b : Int), .int .u8 0] 5 (0, 0))) (h3 : w.heap[G]? = some (.cells #[.slice (some ⟨S, 0, none⟩) 8 8, .slice (some ⟨N, 0, none⟩) 4 4] 38 (0, 0))) :
    Calls Tryd.prog 17 #[.int .u8 115, .slice (some ⟨G, 0, none⟩) 2 2] w fun e w' => e = .returned (.agg (ba (sec seed x i b))) ∧ Below w.heap.size w w' := by
  have sx := src_ba (t := 23) h1 8 (by omega)
  rw [List.take_of_length_le (by omega)] at sx
  have sy : Src w (some ⟨N, 0, none⟩) 4 [x, (i : Int), (b : Int), 0] := by
    refine ⟨rfl, .inr ⟨N, 0, rfl, fun k hk => ?_⟩⟩
    rw [cell_of_row w N (0 + k) _ 5 (0, 0) h2]
    match k, hk with
    | 0, _ => rfl
    | 1, _ => rfl
    | 2, _ => rfl
    | 3, _ => rfl
  have C := c10 115 (some ⟨G, 0, none⟩) 2 2 _ _ _ _ w hk (prts2 h3 sx sy (by decide) (by decide)) (by rw [msg_sec]; exact sec_le seed x i b hs)
  rw [msg_sec] at C
  exact C
end Go.Proofs.YtimfinachecadaaDoor
