/-
  The law's Coin.
-/
import Derived.Test.YtdggnmlhgglccaaU4
namespace Go.Proofs.Ytdggnmlhgglccaa
open Go.RowKit
set_option maxRecDepth 100000
set_option maxHeartbeats 4000000 in
theorem uCoin (c : Cn) (w : World) (h : c.r.length = 10) :
    Calls Try.prog 12 #[.agg (cnV c).toArray] w fun e w' => e = .returned (.agg (cnV c).toArray) ∧ Below w.heap.size w w' := by
  obtain ⟨r, b⟩ := c
  match r, h with
  | [x0, x1, x2, x3, x4, x5, x6, x7, x8, x9], _ =>
    have hc : cnV ⟨[x0, x1, x2, x3, x4, x5, x6, x7, x8, x9], b⟩ = [.int .u8 x0, .int .u8 x1, .int .u8 x2, .int .u8 x3, .int .u8 x4, .int .u8 x5, .int .u8 x6, .int .u8 x7, .int .i64 x8, .int .i64 x9, .bool b] := rfl
    rw [hc]
    have hh : ((w.alloc (Obj.cells #[.int .u8 x0, .int .u8 x1, .int .u8 x2, .int .u8 x3, .int .u8 x4, .int .u8 x5, .int .u8 x6, .int .u8 x7, .int .i64 x8, .int .i64 x9, .bool b] 42)).alloc (Obj.cells #[.int .u8 x0, .int .u8 x1, .int .u8 x2, .int .u8 x3, .int .u8 x4, .int .u8 x5, .int .u8 x6, .int .u8 x7, .int .i64 x8, .int .i64 x9, .bool b] 47)).heap[w.heap.size + 1]? = some (.cells #[.int .u8 x0, .int .u8 x1, .int .u8 x2, .int .u8 x3, .int .u8 x4, .int .u8 x5, .int .u8 x6, .int .u8 x7, .int .i64 x8, .int .i64 x9, .bool b] 47 (0, 0)) := by
      have := heap_alloc_last (w.alloc (Obj.cells #[.int .u8 x0, .int .u8 x1, .int .u8 x2, .int .u8 x3, .int .u8 x4, .int .u8 x5, .int .u8 x6, .int .u8 x7, .int .i64 x8, .int .i64 x9, .bool b] 42)) (Obj.cells #[.int .u8 x0, .int .u8 x1, .int .u8 x2, .int .u8 x3, .int .u8 x4, .int .u8 x5, .int .u8 x6, .int .u8 x7, .int .i64 x8, .int .i64 x9, .bool b] 47)
      rw [World.size_alloc] at this
      exact this
    have hb : Below w.heap.size w ((w.alloc (Obj.cells #[.int .u8 x0, .int .u8 x1, .int .u8 x2, .int .u8 x3, .int .u8 x4, .int .u8 x5, .int .u8 x6, .int .u8 x7, .int .i64 x8, .int .i64 x9, .bool b] 42)).alloc (Obj.cells #[.int .u8 x0, .int .u8 x1, .int .u8 x2, .int .u8 x3, .int .u8 x4, .int .u8 x5, .int .u8 x6, .int .u8 x7, .int .i64 x8, .int .i64 x9, .bool b] 47)) := ((Below.refl w.heap.size w).alloc (Nat.le_refl _) _).alloc (by simp) _
    have HH := Lib.hid hh
    have HB := Lib.hid hb
    clear hh hb
    go_enter Try.func12, Try.ntmps12
    go_wp2
    exact bodyPost_ret (v := .agg #[.int .u8 x0, .int .u8 x1, .int .u8 x2, .int .u8 x3, .int .u8 x4, .int .u8 x5, .int .u8 x6, .int .u8 x7, .int .i64 x8, .int .i64 x9, .bool b]) (results_cell_row rfl _ _ (w.heap.size + 1) 47 _ (0, 0) _ rfl HH.out Try.underlying47 rfl i47) rfl ⟨rfl, HB.out⟩
end Go.Proofs.Ytdggnmlhgglccaa
