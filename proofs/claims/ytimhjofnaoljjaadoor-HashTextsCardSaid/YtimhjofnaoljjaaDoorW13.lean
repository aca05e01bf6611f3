/-
  Less.
-/
import Derived.Test.YtimhjofnaoljjaaDoorW12
import Derived.Lib.BytesEntry
import Derived.Lib.Bytealg
namespace Go.Proofs.YtimhjofnaoljjaaDoor
open Go.RowKit
theorem run_compareRows (xs ys : List Int) (a b : Addr) (n m c d : Nat) (w : World) (hx : xs.length = n) (hy : ys.length = m) (h1 : ∀ j x, xs[j]? = some x → w.cell? (a.add j) = some (.int .u8 x)) (h2 : ∀ j x, ys[j]? = some x → w.cell? (b.add j) = some (.int .u8 x)) :
    (Extern.BytealgCompare.compare #[.slice (some a) n c, .slice (some b) m d]).run Tryd.prog w = .ok (.int .i64 (Lib.compareBytes (Lib.bytesOf xs) (Lib.bytesOf ys))) w := by
  subst hx hy
  change Sem.run Tryd.prog (do pure (goInt (Extern.BytealgCompare.cmp (← Extern.Bytes.bytesOf (.slice (some a) xs.length c)) (← Extern.Bytes.bytesOf (.slice (some b) ys.length d))))) w = _
  simp only [Extern.Bytes.bytesOf, Sem.run_bind, Sem.run_pure, Lib.run_loadBytesX w xs a _ h1, Lib.run_loadBytesX w ys b _ h2, Result.andThen]
  rw [Lib.cmp_eq]
  simp [ByteArray.empty, ByteArray.emptyWithCapacity, goInt]
  rfl
theorem c37 (xs ys : List Int) (a b : Addr) (n m c d : Nat) (w : World) (hx : xs.length = n) (hy : ys.length = m) (h1 : ∀ j x, xs[j]? = some x → w.cell? (a.add j) = some (.int .u8 x)) (h2 : ∀ j x, ys[j]? = some x → w.cell? (b.add j) = some (.int .u8 x)) :
    (callFunc 37 #[.slice (some a) n c, .slice (some b) m d]).run Tryd.prog w = .ok (.value (.int .i64 (Lib.compareBytes (Lib.bytesOf xs) (Lib.bytesOf ys)))) w := by
  rw [run_callFunc_extern Tryd.func37 (by kernel_rfl) (by kernel_rfl) (by kernel_rfl) (e := Extern.BytealgCompare.compare) (by kernel_rfl), run_compareRows xs ys a b n m c d w hx hy h1 h2]
  rfl
theorem c32 (xs ys : List Int) (a b : Addr) (n m c d : Nat) (w : World) (hx : xs.length = n) (hy : ys.length = m) (h1 : ∀ j x, xs[j]? = some x → w.cell? (a.add j) = some (.int .u8 x)) (h2 : ∀ j x, ys[j]? = some x → w.cell? (b.add j) = some (.int .u8 x)) :
    Calls Tryd.prog 32 #[.slice (some a) n c, .slice (some b) m d] w fun e w' => e = .returned (.int .i64 (Lib.compareBytes (Lib.bytesOf xs) (Lib.bytesOf ys))) ∧ w' = w := by
  have hc := c37 xs ys a b n m c d w hx hy h1 h2
  clear hx hy h1 h2
  go_enter Tryd.func32, Tryd.ntmps32
  go_wp2
  go_ret
  exact ⟨rfl, rfl⟩
/-- is one hash less than another? -/
def lessB (xs ys : List Int) : Bool := decide (Lib.compareBytes (Lib.bytesOf xs) (Lib.bytesOf ys) < 0)
theorem ba_at {w : World} {b : Nat} {t : TypeId} {xs : List Int} (h : BA w b t xs) : ∀ j x, xs[j]? = some x → w.cell? ((⟨b, 0, none⟩ : Addr).add j) = some (.int .u8 x) := by
  intro j x hx
  have hj : j < xs.length := (List.getElem?_eq_some_iff.1 hx).1
  rw [Addr.add_mid, Nat.zero_add, ba_cell h j hj]
  simp [List.getD, hx]
attribute [local irreducible] ba ua
set_option maxRecDepth 100000 in
set_option maxHeartbeats 1000000 in
theorem c20 (xs ys : List Int) (w : World) (hx : xs.length = 8) (hy : ys.length = 8) :
    Calls Tryd.prog 20 #[.agg (ba xs), .agg (ba ys)] w fun e w' => e = .returned (.bool (lessB xs ys)) ∧ Below w.heap.size w w' := by
  have HXL := Lib.hid hx
  have HYL := Lib.hid hy
  clear hx hy
  obtain ⟨S, hS⟩ : ∃ S, w.heap.size = S := ⟨_, rfl⟩
  have T0 : Hid (BA (w.alloc (Obj.cells (ba xs) 27)) S 27 xs) := by subst hS; exact heap_alloc_last w _
  have T1 : Hid (BA ((w.alloc (Obj.cells (ba xs) 27)).alloc (Obj.cells (ba ys) 27)) (S + 1) 27 ys) := by
    subst hS
    have := heap_alloc_last (w.alloc (Obj.cells (ba xs) 27)) (Obj.cells (ba ys) 27)
    simp only [World.size_alloc] at this
    exact this
  have T2 : Hid (BA ((w.alloc (Obj.cells (ba xs) 27)).alloc (Obj.cells (ba ys) 27)) S 27 xs) := (Below.heap_alloc _ _ _ (lt_of_block T0.out)).trans T0.out
  have B0 : Hid (Below w.heap.size w ((w.alloc (Obj.cells (ba xs) 27)).alloc (Obj.cells (ba ys) 27))) := ((Below.refl _ w).alloc (Nat.le_refl _) _).alloc (by simp) _
  have hc : ∀ w' : World, w'.heap = ((w.alloc (Obj.cells (ba xs) 27)).alloc (Obj.cells (ba ys) 27)).heap → Calls Tryd.prog 32 #[.slice (some ⟨S, 0, none⟩) 8 8, .slice (some ⟨S + 1, 0, none⟩) 8 8] w' fun e w'' => e = .returned (.int .i64 (Lib.compareBytes (Lib.bytesOf xs) (Lib.bytesOf ys))) ∧ w'' = w' := fun w' hh =>
    c32 xs ys ⟨S, 0, none⟩ ⟨S + 1, 0, none⟩ 8 8 8 8 w' HXL.out HYL.out (ba_at (t := 27) (by unfold BA; rw [hh]; exact T2.out)) (ba_at (t := 27) (by unfold BA; rw [hh]; exact T1.out))
  have HC := Lib.hid hc
  clear hc T0
  go_enter Tryd.func20, Tryd.ntmps20
  go_wp2_with fail
  go_quiet (first | (go_at_call 32; refine Calls.quiet_of_same (HC.out _ rfl)))
  go_wp2
  go_ret
  exact ⟨rfl, below_drewN B0.out _⟩
end Go.Proofs.YtimhjofnaoljjaaDoor
