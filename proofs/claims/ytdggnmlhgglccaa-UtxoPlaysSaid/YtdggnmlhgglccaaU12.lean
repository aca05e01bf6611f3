/-
  Fill of nothing.
-/
import Derived.Test.YtdggnmlhgglccaaU11
namespace Go.Proofs.Ytdggnmlhgglccaa
open Go.RowKit
set_option maxRecDepth 100000
set_option maxHeartbeats 4000000 in
theorem uFill0 (w : World) : Calls Try.prog 18 #[.slice none 0 0] w fun e w' => ∃ m, e = .returned (.tuple #[.pointer (some ⟨w.heap.size, 0, none⟩), m]) ∧ SetIs w' w.heap.size [] (fun q => q = w.heap.size) ∧ Below w.heap.size w w' := by
  have CN := Lib.hid (uNew)
  go_enter Try.func18, Try.ntmps18
  go_wp2_with (first
    | (go_at_call 8; refine (CN.out _).mono ?_; rintro e w1 ⟨rfl, g1, g2⟩; have G1 := Lib.hid g1; have G2 := Lib.hid g2; clear g1 g2)
    | fail)
  refine wp_loop_once ?_
  go_wp2
  go_ret2
  exact ⟨_, rfl, SetIs.grow G1.out ((Below.refl w1.heap.size w1).alloc (Nat.le_refl _) _), G2.out.alloc G2.out.size _⟩
end Go.Proofs.Ytdggnmlhgglccaa
