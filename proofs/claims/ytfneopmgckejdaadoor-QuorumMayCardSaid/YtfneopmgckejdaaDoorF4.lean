/-
  The first eight bytes of a sum in the quick form.
-/
import Derived.Test.YtfneopmgckejdaaDoorF3
namespace Go.Proofs.YtfneopmgckejdaaDoor
open Go.RowKit
def qiv : N8 := ⟨1779033703, 3144134277, 1013904242, 2773480762, 1359893119, 2600822924, 528734635, 1541459225⟩
theorem qiv_up : ivS = qiv.up := rfl
theorem qiv_ok : qiv.ok := by unfold N8.ok qiv; decide
def qhs (m : List Nat) : Nat → N8
  | 0 => qiv
  | k + 1 => qcomp (qhs m k) (qwords ((m.drop (64 * k)).take 64))
theorem bytN_take {l : List Nat} (h : BytN l) (k : Nat) : BytN (l.take k) := fun x hx => h x (List.mem_of_mem_take hx)
theorem bytN_drop {l : List Nat} (h : BytN l) (k : Nat) : BytN (l.drop k) := fun x hx => h x (List.mem_of_mem_drop hx)
theorem bytN_app {a b : List Nat} (h : BytN a) (h2 : BytN b) : BytN (a ++ b) := fun x hx => by
  rcases List.mem_append.1 hx with g | g
  · exact h x g
  · exact h2 x g
theorem hs_succ (m : List Int) (k : Nat) : hs m (k + 1) = comp (hs m k) ((m.drop (64 * k)).take 64) := rfl
theorem hs_q (m : List Nat) (hb : BytN m) : ∀ k, 64 * k ≤ m.length → hs (up m) k = (qhs m k).up ∧ (qhs m k).ok
  | 0, _ => ⟨qiv_up, qiv_ok⟩
  | k + 1, h => by
    obtain ⟨h1, h2⟩ := hs_q m hb k (by omega)
    have e : ((up m).drop (64 * k)).take 64 = up ((m.drop (64 * k)).take 64) := by
      unfold up
      rw [List.map_take, List.map_drop]
    rw [hs_succ, h1, e, qhs]
    exact comp_q _ h2 _ (bytN_take (bytN_drop hb _) _) (by rw [List.length_take, List.length_drop]; omega)
def qbe (n : Nat) : List Nat := [n / 72057594037927936 % 256, n / 281474976710656 % 256, n / 1099511627776 % 256, n / 4294967296 % 256, n / 16777216 % 256, n / 65536 % 256, n / 256 % 256, n % 256]
theorem be_q (n : Nat) : be (n : Int) 8 = up (qbe n) := by
  unfold be up qbe
  simp [List.range_succ]
theorem qbe_byt (n : Nat) : BytN (qbe n) := by
  intro x hx
  simp only [qbe, List.mem_cons, List.not_mem_nil, or_false] at hx
  rcases hx with rfl | rfl | rfl | rfl | rfl | rfl | rfl | rfl <;> exact Nat.mod_lt _ (by decide)
def qfill (n : Nat) : List Nat := 128 :: List.replicate (room n) 0
theorem fill_q (n : Nat) : fill n = up (qfill n) := by
  unfold fill up qfill zeros
  simp
theorem qfill_byt (n : Nat) : BytN (qfill n) := by
  intro x hx
  rcases List.mem_cons.1 hx with rfl | g
  · decide
  · rw [List.eq_of_mem_replicate g]; decide
def qpad (m : List Nat) : List Nat := m ++ qfill m.length ++ qbe (8 * m.length)
theorem pad_q (m : List Nat) : pad (up m) = up (qpad m) := by
  unfold pad qpad
  rw [up_app, up_app, up_len, ← fill_q, ← be_q]
  congr 2
theorem qpad_byt {m : List Nat} (h : BytN m) : BytN (qpad m) := bytN_app (bytN_app h (qfill_byt _)) (qbe_byt _)
def q8 (s : N8) : List Nat := [s.a / 16777216 % 256, s.a / 65536 % 256, s.a / 256 % 256, s.a % 256, s.b / 16777216 % 256, s.b / 65536 % 256, s.b / 256 % 256, s.b % 256]
theorem q8_byt (s : N8) : BytN (q8 s) := by
  intro x hx
  simp only [q8, List.mem_cons, List.not_mem_nil, or_false] at hx
  rcases hx with rfl | rfl | rfl | rfl | rfl | rfl | rfl | rfl <;> exact Nat.mod_lt _ (by decide)
theorem q8_len (s : N8) : (q8 s).length = 8 := rfl
theorem out_q (s : N8) : (outB s.up 32).take 8 = up (q8 s) := by
  have e : (outB s.up 32).take 8 = [(s.a : Int) / 2 ^ 24 % 256, (s.a : Int) / 2 ^ 16 % 256, (s.a : Int) / 2 ^ 8 % 256, (s.a : Int) / 2 ^ 0 % 256, (s.b : Int) / 2 ^ 24 % 256, (s.b : Int) / 2 ^ 16 % 256, (s.b : Int) / 2 ^ 8 % 256, (s.b : Int) / 2 ^ 0 % 256] := rfl
  rw [e]
  unfold up q8
  simp
/-- the first eight bytes of the sum -/
def qsha (m : List Nat) : List Nat := q8 (qhs (qpad m) ((qpad m).length / 64))
theorem qsha_byt (m : List Nat) : BytN (qsha m) := q8_byt _
theorem qsha_len (m : List Nat) : (qsha m).length = 8 := rfl
theorem sha_q (m : List Nat) (h : BytN m) : (sha (up m)).take 8 = up (qsha m) := by
  unfold sha qsha
  rw [pad_q, up_len, (hs_q _ (qpad_byt h) _ (by omega)).1]
  exact out_q _
end Go.Proofs.YtfneopmgckejdaaDoor
