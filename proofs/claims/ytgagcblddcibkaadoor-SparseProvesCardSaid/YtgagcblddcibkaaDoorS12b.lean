/-
  The parts of a leaf, digested: the program's and the document's.
-/
import Derived.Test.YtgagcblddcibkaaDoorS12
namespace Go.Proofs.YtgagcblddcibkaaDoor
open Go.RowKit
open Go.Maps
def pa4 {α : Type} (a b c d : α) : Nat → α := fun i => if i = 0 then a else if i = 1 then b else if i = 2 then c else d
/-- what a leaf digests -/
def leafM (i : Int) (ow : List Int) (am no : Int) : List Int := msg 97 (pa4 2 8 7 1) (pa4 (digs i 2) ow (digs am 7) (digs no 1)) 4
theorem leafM_len (i : Int) (ow : List Int) (am no : Int) (h : ow.length = 8) : (leafM i ow am no).length ≤ 400000 := by
  unfold leafM
  simp only [msg1, msg0, List.length_append, digs_len, List.length_singleton]
  simp [pa4, digs_len, h]
theorem prts4 {w : World} {G S : Nat} {Aa Ab Ac : Option Addr} {da db dc : Nat} {i am no : Int} {ow : List Int} (hlast : w.heap[G]? = some (.cells #[.slice Aa 2 da, .slice (some ⟨S, 0, none⟩) 8 8, .slice Ab 7 db, .slice Ac 1 dc] 67 (0, 0)))
    (h0 : Src w Aa 2 (digs i 2)) (h1 : Src w (some ⟨S, 0, none⟩) 8 ow) (h2 : Src w Ab 7 (digs am 7)) (h3 : Src w Ac 1 (digs no 1)) (l0 : 2 ≤ da ∧ da ≤ 9223372036854775807 ∧ (Aa = none → da = 0)) (l2 : 7 ≤ db ∧ db ≤ 9223372036854775807 ∧ (Ab = none → db = 0)) (l3 : 1 ≤ dc ∧ dc ≤ 9223372036854775807 ∧ (Ac = none → dc = 0)) :
    Prts w (some ⟨G, 0, none⟩) 4 (pa4 Aa (some ⟨S, 0, none⟩) Ab Ac) (pa4 2 8 7 1) (pa4 da 8 db dc) (pa4 (digs i 2) ow (digs am 7) (digs no 1)) ∧ ∀ j, j < 4 → pa4 Aa (some ⟨S, 0, none⟩) Ab Ac j = none → pa4 da 8 db dc j = 0 := by
  refine ⟨⟨.inr ⟨G, 0, rfl, fun j hj => ?_⟩, fun j hj => ?_, fun j hj => ?_⟩, fun j hj => ?_⟩
  · rw [cell_of_row w G (0 + j) _ 67 (0, 0) hlast]
    match j, hj with
    | 0, _ => rfl
    | 1, _ => rfl
    | 2, _ => rfl
    | 3, _ => rfl
  · match j, hj with
    | 0, _ => exact h0
    | 1, _ => exact h1
    | 2, _ => exact h2
    | 3, _ => exact h3
  · match j, hj with
    | 0, _ => exact ⟨l0.1, l0.2.1⟩
    | 1, _ => exact ⟨Nat.le_refl 8, by show 8 ≤ 9223372036854775807; omega⟩
    | 2, _ => exact ⟨l2.1, l2.2.1⟩
    | 3, _ => exact ⟨l3.1, l3.2.1⟩
  · match j, hj with
    | 0, _ => exact l0.2.2
    | 1, _ => intro e; cases e
    | 2, _ => exact l2.2.2
    | 3, _ => exact l3.2.2
def Len4 (w d : Nat) (A : Option Addr) : Prop := w ≤ d ∧ d ≤ 9223372036854775807 ∧ (A = none → d = 0)
theorem leafP {w : World} {G S : Nat} {Aa Ab Ac : Option Addr} {da db dc : Nat} {i am no : Int} {ow : List Int} (hk : Keys w) (hlast : w.heap[G]? = some (.cells #[.slice Aa 2 da, .slice (some ⟨S, 0, none⟩) 8 8, .slice Ab 7 db, .slice Ac 1 dc] 67 (0, 0)))
    (h0 : Src w Aa 2 (digs i 2)) (h1 : Src w (some ⟨S, 0, none⟩) 8 ow) (h2 : Src w Ab 7 (digs am 7)) (h3 : Src w Ac 1 (digs no 1)) (l0 : Len4 2 da Aa) (l2 : Len4 7 db Ab) (l3 : Len4 1 dc Ac) :
    Calls Tryd.prog 33 #[.int .u8 97, .slice (some ⟨G, 0, none⟩) 4 4] w fun e w' => e = .returned (.agg (ba ((sha (leafM i ow am no)).take 8))) ∧ Below w.heap.size w w' :=
  c10 97 (some ⟨G, 0, none⟩) 4 4 _ _ _ _ w hk (prts4 hlast h0 h1 h2 h3 l0 l2 l3).1 (leafM_len i ow am no h1.1)
theorem leafR {w : World} {G S : Nat} {Aa Ab Ac : Option Addr} {da db dc : Nat} {i am no : Int} {ow : List Int} (_ : Keys w) (hlast : w.heap[G]? = some (.cells #[.slice Aa 2 da, .slice (some ⟨S, 0, none⟩) 8 8, .slice Ab 7 db, .slice Ac 1 dc] 67 (0, 0)))
    (h0 : Src w Aa 2 (digs i 2)) (h1 : Src w (some ⟨S, 0, none⟩) 8 ow) (h2 : Src w Ab 7 (digs am 7)) (h3 : Src w Ac 1 (digs no 1)) (l0 : Len4 2 da Aa) (l2 : Len4 7 db Ab) (l3 : Len4 1 dc Ac) :
    Calls Tryd.prog 36 #[.int .u8 97, .slice (some ⟨G, 0, none⟩) 4 4] w fun e w' => e = .returned (.agg (ba ((sha (leafM i ow am no)).take 8))) ∧ Below w.heap.size w w' :=
  c12 sum13 97 (some ⟨G, 0, none⟩) 4 4 _ _ _ _ w (prts4 hlast h0 h1 h2 h3 l0 l2 l3).1 (prts4 hlast h0 h1 h2 h3 l0 l2 l3).2 (leafM_len i ow am no h1.1)
theorem src8 {w : World} {S : Nat} (o0 o1 o2 o3 o4 o5 o6 o7 : Int) (h : ∀ c, c < 8 → w.cell? ⟨S, c, none⟩ = some (.int .u8 ([o0, o1, o2, o3, o4, o5, o6, o7].getD c 0))) : Src w (some ⟨S, 0, none⟩) 8 [o0, o1, o2, o3, o4, o5, o6, o7] := by
  refine ⟨rfl, .inr ⟨S, 0, rfl, fun j hj => ?_⟩⟩
  rw [Nat.zero_add]
  exact h j hj
end Go.Proofs.YtgagcblddcibkaaDoor
