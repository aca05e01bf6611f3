/-
  The document's SameTx.
-/
import Derived.Test.YtffaddefnpkcgaaGreatDoorZT78
import Derived.Test.YtffaddefnpkcgaaGreatDoorZR
import Derived.Test.YtffaddefnpkcgaaGreatDoorZP
import Derived.Test.YtffaddefnpkcgaaGreatDoorZHD
namespace Go.Proofs.YtffaddefnpkcgaaGreatDoor
open Go.RowKit
set_option maxRecDepth 100000
theorem dEncN (t : TxP) (h : TxH) (w : World) (ht : WfT t) (hm : Mem w t h) (hf : FewT t) (hc : mayT t = false) :
    Calls Tryz.prog 12 #[.agg (txC t h).toArray] w fun e w' => e = .returned (.tuple #[.slice none 0 0, .int .i64 1]) ∧ Below w.heap.size w w' := by
  refine (dEncT t h w ht hm hf).mono fun e w' g => ⟨?_, g.2⟩
  have := g.1
  rwa [if_neg (by rw [hc]; decide)] at this
theorem dEncY (t : TxP) (h : TxH) (w : World) (ht : WfT t) (hm : Mem w t h) (hf : FewT t) (hc : mayT t = true) :
    Calls Tryz.prog 12 #[.agg (txC t h).toArray] w fun e w' => (∃ A c, e = .returned (.tuple #[.slice A (encT t).length c, .int .i64 0]) ∧ Row w' A (encT t) ∧ (encT t).length ≤ c ∧ (A = none → c = 0) ∧ c ≤ 9223372036854775807) ∧ Below w.heap.size w w' := by
  refine (dEncT t h w ht hm hf).mono fun e w' g => ⟨?_, g.2⟩
  have := g.1
  rw [if_pos hc] at this
  obtain ⟨A, c, h1, h2⟩ := this
  exact ⟨A, c, h1, ob_row h2, (ob_cap h2).1, (ob_cap h2).2.2, (ob_cap h2).2.1⟩
attribute [local irreducible] ua da ba kk sw S8.run rt hs comp splice outB sha msg zeros win bvals vals parC cerC claC txC cel seg hash1 hash2 encT mayT strOfNums
end Go.Proofs.YtffaddefnpkcgaaGreatDoor
namespace Go.Proofs.YtffaddefnpkcgaaGreatDoor
open Go.RowKit
set_option maxRecDepth 100000
theorem dOne (p : Int) (A : Option Addr) (n c cap g : Nat) (x : List Int) (w : World) (hc : w.cell? ⟨g, 0, none⟩ = some (.slice A n c)) (hs : Src w A n x) (hle : n ≤ c) (hcm : c ≤ 9223372036854775807) (hl : n ≤ 200000) (hno : A = none → c = 0) :
    Calls Tryz.prog 28 #[.int .u8 p, .slice (some ⟨g, 0, none⟩) 1 cap] w fun e w' => e = .returned (.agg (bvals (hash1 p x)).toArray) ∧ Below w.heap.size w w' := by
  have P := prtsX (w := w) (g := g) (off := 0) [(A, n, c, x)] (fun i s h => by
    match i, h with
    | 0, h => simp at h; rw [← h]; exact ⟨hc, hs, hle, hcm⟩
    | i + 1, h => simp at h)
  have e : msg p (fun i => (([(A, n, c, x)] : List (Option Addr × Nat × Nat × List Int)).getD i (none, 0, 0, [])).2.1) (fun i => (([(A, n, c, x)] : List (Option Addr × Nat × Nat × List Int)).getD i (none, 0, 0, [])).2.2.2) 1 = mg1 p x := by
    show [p] ++ digs n 4 ++ x = _
    unfold mg1
    rw [hs.1]
  have C := c12 sum13 p (some ⟨g, 0, none⟩) 1 cap _ _ _ _ w P (fun i hi ha => by
    obtain rfl : i = 0 := by omega
    exact hno ha) (by rw [e]; unfold mg1; rw [List.length_append, List.length_append, digs_len, hs.1]; simp; omega)
  rw [e] at C
  exact C
theorem dTwo (p : Int) (A B : Option Addr) (n c m d cap g : Nat) (x y : List Int) (w : World) (hc : w.cell? ⟨g, 0, none⟩ = some (.slice A n c)) (hs : Src w A n x) (hle : n ≤ c) (hcm : c ≤ 9223372036854775807) (hl : n ≤ 200000) (hno : A = none → c = 0)
    (hd : w.cell? ⟨g, 1, none⟩ = some (.slice B m d)) (ht : Src w B m y) (hme : m ≤ d) (hdm : d ≤ 9223372036854775807) (hm : m ≤ 1000) (hnb : B = none → d = 0) :
    Calls Tryz.prog 28 #[.int .u8 p, .slice (some ⟨g, 0, none⟩) 2 cap] w fun e w' => e = .returned (.agg (bvals (hash2 p x y)).toArray) ∧ Below w.heap.size w w' := by
  have P := prtsX (w := w) (g := g) (off := 0) [(A, n, c, x), (B, m, d, y)] (fun i s h => by
    match i, h with
    | 0, h => simp at h; rw [← h]; exact ⟨hc, hs, hle, hcm⟩
    | 1, h => simp at h; rw [← h]; exact ⟨hd, ht, hme, hdm⟩
    | i + 2, h => simp at h)
  have e : msg p (fun i => (([(A, n, c, x), (B, m, d, y)] : List (Option Addr × Nat × Nat × List Int)).getD i (none, 0, 0, [])).2.1) (fun i => (([(A, n, c, x), (B, m, d, y)] : List (Option Addr × Nat × Nat × List Int)).getD i (none, 0, 0, [])).2.2.2) 2 = mg2 p x y := by
    show [p] ++ digs n 4 ++ x ++ digs m 4 ++ y = _
    unfold mg2 mg1
    rw [hs.1, ht.1]
  have C := c12 sum13 p (some ⟨g, 0, none⟩) 2 cap _ _ _ _ w P (fun i hi ha => by
    match i, hi with
    | 0, _ => exact hno ha
    | 1, _ => exact hnb ha
    | i + 2, hi => omega) (by rw [e]; unfold mg2 mg1; rw [List.length_append, List.length_append, List.length_append, List.length_append, digs_len, digs_len, hs.1, ht.1]; simp; omega)
  rw [e] at C
  exact C
theorem eqH (d : List Int) (hd : d.length = 8) (w : World) : (Op.equalIn 10000 29 (.agg (bvals d).toArray) (.agg (bvals d).toArray)).run Tryz.prog w = .ok true w := by
  have := eq_ba 29 8 9998 Tryz.underlying29 d d w hd hd
  rw [decide_eq_true rfl] at this
  exact this
theorem neqS (d : List Int) (hd : d.length = 8) (w : World) : (binOp BinOp.neq 29 (.agg (bvals d).toArray) (.agg (bvals d).toArray)).run Tryz.prog w = .ok (.bool false) w := by
  have := eqH d hd w
  simp [binOp, Op.equal, Op.maxDepth, this]
theorem eqlS (d : List Int) (hd : d.length = 8) (w : World) : (binOp BinOp.eql 29 (.agg (bvals d).toArray) (.agg (bvals d).toArray)).run Tryz.prog w = .ok (.bool true) w := by
  have := eqH d hd w
  simp [binOp, Op.equal, Op.maxDepth, this]
end Go.Proofs.YtffaddefnpkcgaaGreatDoor

