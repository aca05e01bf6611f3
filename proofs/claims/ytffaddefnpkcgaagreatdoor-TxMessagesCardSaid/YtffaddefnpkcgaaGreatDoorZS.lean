/-
  TxKinds: a field of another kind.
-/
import Derived.Test.YtffaddefnpkcgaaGreatDoorZT40
import Derived.Test.YtffaddefnpkcgaaGreatDoorZR
namespace Go.Proofs.YtffaddefnpkcgaaGreatDoor
open Go.RowKit
set_option maxRecDepth 100000
def mixT (x y : TxP) : TxP := if y.kind = 1 then { x with height := y.height } else if y.kind = 2 then { x with ins := y.ins } else if y.kind = 3 then { x with par := y.par, keys := y.keys }
  else if y.kind = 4 then { x with cer := y.cer, couts := y.couts, csigs := y.csigs } else { x with cla := y.cla }
def mixH (y : TxP) (h k : TxH) : TxH := if y.kind = 1 then h else if y.kind = 2 then { h with i := k.i } else if y.kind = 3 then { h with k := k.k } else if y.kind = 4 then { h with co := k.co, cs := k.cs } else h
structure V7 (S : Nat) (w0 : World) (x : TxP) (h : TxH) (y : TxP) (k : TxH) (w : World) : Prop where
  bel : Below S w0 w
  x : BL w S (txC x h) 39
  y : BL w (S + 1) (txC y k) 39
  sz : S + 2 ≤ w.heap.size
theorem V7.step {S : Nat} {w0 : World} {x : TxP} {h : TxH} {y : TxP} {k : TxH} {w w' : World} (v : V7 S w0 x h y k w) (hb : Below w.heap.size w w') : V7 S w0 x h y k w' :=
  ⟨v.bel.trans (hb.mono (by have := v.sz; omega)), bl_keep v.x (hb.block S (by have := v.sz; omega)), bl_keep v.y (hb.block (S + 1) (by have := v.sz; omega)), Nat.le_trans v.sz hb.size⟩
end Go.Proofs.YtffaddefnpkcgaaGreatDoor
namespace Go.Proofs.YtffaddefnpkcgaaGreatDoor
open Go.RowKit
set_option maxRecDepth 100000
theorem mid_set {A P P' R : List Value} {o n : Nat} (hA : A.length = o) (hP : P.length = n) : (A ++ (P ++ R)).take o ++ (P' ++ (A ++ (P ++ R)).drop (o + n)) = A ++ (P' ++ R) := by
  subst hA hP
  rw [List.take_left, ← List.append_assoc A P R, ← List.length_append, List.drop_left]
theorem z1 {w : World} {N : Nat} {x y : TxP} {h k : TxH} (b : BL w N (txC x h) 39) (e : y.kind = 1) : BL (w.setCell ⟨N, 1, none⟩ (.int .i64 y.height)) N (txC (mixT x y) (mixH y h k)) 39 := by
  unfold mixT mixH
  rw [if_pos e, if_pos e]
  exact bl_set b 1 _
theorem z2 {w : World} {N : Nat} {x y : TxP} {h k : TxH} (b : BL w N (txC x h) 39) (e : y.kind = 2) : BL (w.setCell ⟨N, 2, none⟩ (.slice k.i.A y.ins.length k.i.c)) N (txC (mixT x y) (mixH y h k)) 39 := by
  unfold mixT mixH
  rw [if_neg (by omega), if_pos e, if_neg (by omega), if_pos e]
  exact bl_set b 2 _
theorem z3 {w : World} {N : Nat} {x y : TxP} {h k : TxH} (hx : WfT x) (hy : WfT y) (b : BL w N (txC x h) 39) (e : y.kind = 3) : BL (w.setCells N 5 (parC y k)) N (txC (mixT x y) (mixH y h k)) 39 := by
  have := bl_sets (parC y k) 5 b (by rw [parC_len k hy, txC_len h hx] <;> omega)
  unfold mixT mixH
  rw [if_neg (by omega), if_neg (by omega), if_pos e, if_neg (by omega), if_neg (by omega), if_pos e]
  rw [parC_len k hy] at this
  refine Eq.trans this ?_
  have e2 := mid_set (A := [Value.int .i64 x.kind, .int .i64 x.height, h.i.v x.ins.length, h.o.v x.outs.length, h.f.v x.fwds.length]) (P := parC x h) (P' := parC y k) (R := cerC x h ++ claC x) rfl (parC_len h hx)
  exact congrArg (fun l : List Value => some (Obj.cells l.toArray 39 (0, 0))) e2
theorem z4 {w : World} {N : Nat} {x y : TxP} {h k : TxH} (hx : WfT x) (hy : WfT y) (b : BL w N (txC x h) 39) (e : y.kind = 4) : BL (w.setCells N 9 (cerC y k)) N (txC (mixT x y) (mixH y h k)) 39 := by
  have := bl_sets (cerC y k) 9 b (by rw [cerC_len k hy, txC_len h hx] <;> omega)
  unfold mixT mixH
  rw [if_neg (by omega), if_neg (by omega), if_neg (by omega), if_pos e, if_neg (by omega), if_neg (by omega), if_neg (by omega), if_pos e]
  rw [cerC_len k hy] at this
  refine Eq.trans this ?_
  have e2 := mid_set (A := [Value.int .i64 x.kind, .int .i64 x.height, h.i.v x.ins.length, h.o.v x.outs.length, h.f.v x.fwds.length] ++ parC x h) (P := cerC x h) (P' := cerC y k) (R := claC x) (by rw [List.length_append, parC_len h hx]) (cerC_len h hx)
  rw [List.append_assoc, List.append_assoc] at e2
  exact congrArg (fun l : List Value => some (Obj.cells l.toArray 39 (0, 0))) e2
theorem z5 {w : World} {N : Nat} {x y : TxP} {h k : TxH} (hx : WfT x) (hy : WfT y) (b : BL w N (txC x h) 39) (e : y.kind = 5) : BL (w.setCells N 30 (claC y)) N (txC (mixT x y) (mixH y h k)) 39 := by
  have := bl_sets (claC y) 30 b (by rw [claC_len hy, txC_len h hx] <;> omega)
  unfold mixT mixH
  rw [if_neg (by omega), if_neg (by omega), if_neg (by omega), if_neg (by omega), if_neg (by omega), if_neg (by omega), if_neg (by omega), if_neg (by omega)]
  rw [claC_len hy] at this
  refine Eq.trans this ?_
  have e2 := mid_set (A := ([Value.int .i64 x.kind, .int .i64 x.height, h.i.v x.ins.length, h.o.v x.outs.length, h.f.v x.fwds.length] ++ parC x h) ++ cerC x h) (P := claC x) (P' := claC y) (R := []) (by rw [List.length_append, List.length_append, parC_len h hx, cerC_len h hx]) (claC_len hx)
  rw [List.append_nil, List.append_nil, List.append_assoc, List.append_assoc, List.append_assoc, List.append_assoc] at e2
  exact congrArg (fun l : List Value => some (Obj.cells l.toArray 39 (0, 0))) e2
theorem V7.set {S : Nat} {w0 : World} {x : TxP} {h : TxH} {y : TxP} {k : TxH} {w : World} (v : V7 S w0 x h y k w) {N : Nat} (hN : S + 2 ≤ N) (i : Nat) (u : Value) : V7 S w0 x h y k (w.setCell ⟨N, i, none⟩ u) :=
  ⟨v.bel.setCell (show S ≤ N by omega) u, bl_keep v.x (heap_setCell_other _ _ _ _ (show S ≠ N by omega)), bl_keep v.y (heap_setCell_other _ _ _ _ (show S + 1 ≠ N by omega)), by simpa [World.setCell] using v.sz⟩
structure V8 (S : Nat) (w0 : World) (x : TxP) (h : TxH) (y : TxP) (k : TxH) (N : Nat) (z : TxP) (l : TxH) (w : World) : Prop where
  v : V7 S w0 x h y k w
  z : BL w N (txC z l) 39
  lt : N < w.heap.size
theorem V8.step {S : Nat} {w0 : World} {x : TxP} {h : TxH} {y : TxP} {k : TxH} {N : Nat} {z : TxP} {l : TxH} {w w' : World} (v : V8 S w0 x h y k N z l w) (hb : Below w.heap.size w w') : V8 S w0 x h y k N z l w' :=
  ⟨v.v.step hb, bl_keep v.z (hb.block N v.lt), Nat.lt_of_lt_of_le v.lt hb.size⟩
theorem V7.new {S : Nat} {w0 : World} {x : TxP} {h : TxH} {y : TxP} {k : TxH} {w : World} (v : V7 S w0 x h y k w) {N : Nat} (hN : w.heap.size = N) : V7 S w0 x h y k ((w.alloc (Obj.cells (txC tx0 hd0).toArray 39)).setRow N (txC x h).toArray) ∧ BL ((w.alloc (Obj.cells (txC tx0 hd0).toArray 39)).setRow N (txC x h).toArray) N (txC x h) 39 ∧ S + 2 ≤ N := by
  subst hN
  exact ⟨v.step (below_setRow ((Below.refl _ w).alloc (Nat.le_refl _) _) (Nat.le_refl _) _), setRow_heap _ _ _ _ _ _ (heap_alloc_last w _), v.sz⟩
end Go.Proofs.YtffaddefnpkcgaaGreatDoor

