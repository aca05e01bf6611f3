/-
  Sign; the document's.
-/
import Derived.Test.YtfneopmgckejdaaDoorK4
import Derived.Test.YtfneopmgckejdaaDoorL14
import Derived.Test.YtfneopmgckejdaaDoorLF
namespace Go.Proofs.YtfneopmgckejdaaDoor
open Go.RowKit
theorem wayP_eq (seed : List Int) (n : Nat) : provL 8 (pubs seed) n 8 = wayP seed n := rfl
theorem wayL_eq (seed : List Int) (n : Nat) : (wayP seed n).flatten = wayL seed n := rfl
theorem sigL_eq (seed m : List Int) (n : Nat) : opL seed n m ++ shL seed n m ++ wayL seed n = sigL seed n m := rfl
theorem opL_eq (seed m : List Int) (n : Nat) : cat (openF (keyL seed n) m) 16 = opL seed n m := rfl
theorem shL_eq (seed m : List Int) (n : Nat) : cat (shutF (keyL seed n) m) 16 = shL seed n m := rfl
theorem sb_put1 {w : World} {G : Nat} {n : Int} {y : List Int} (h : SB w G n (zeros 280)) (hy : y.length = 128) : SB (w.setCells G 1 (bvals y)) G n (y ++ zeros 152) := by
  have h1 := sb_sets y 0 h
  have h2 := splR_app y [] (zeros 280) (by rw [zeros_len]; omega)
  rw [List.nil_append, List.nil_append, List.length_nil, zeros_drop, hy] at h2
  rw [h2] at h1
  exact h1
theorem sb_put2 {w : World} {G : Nat} {n : Int} {y z : List Int} (h : SB w G n (y ++ zeros 152)) (hy : y.length = 128) (hz : z.length = 128) : SB (w.setCells G 129 (bvals z)) G n (y ++ z ++ zeros 24) := by
  have h1 := sb_sets z 128 h
  have h2 := splR_app z y (zeros 152) (by rw [zeros_len]; omega)
  rw [zeros_drop, hy, hz, ← List.append_assoc] at h2
  rw [h2] at h1
  exact h1
theorem sb_put3 {w : World} {G : Nat} {n : Int} {y z p : List Int} (h : SB w G n (y ++ z ++ zeros 24)) (hy : y.length = 128) (hz : z.length = 128) (hp : p.length = 24) : SB (w.setCells G 257 (bvals p)) G n (y ++ z ++ p) := by
  have h1 := sb_sets p 256 h
  have h2 := splR_app p (y ++ z) (zeros 24) (by rw [zeros_len]; omega)
  rw [zeros_drop, hp, List.length_append, hy, hz, List.eq_nil_of_length_eq_zero (zeros_len (24 - 24)), List.append_nil] at h2
  rw [h2] at h1
  exact h1
theorem wpList_b30 {ops : Array Oper} {rest : List Oper} {o : Oper} {a : Act} {w : World} {Q : Exit → Act → World → Prop} (hg : o.guard = none) (x : Operand) (ho : o.op = .build 43 #[(0, x)]) (i : Int) (hx : a.eval x = .int .i64 i)
    (hK : wpList Tryd.prog ops Q rest (a.put o.dst (.agg (sg i (zeros 280)).toArray)) w) : wpList Tryd.prog ops Q (o :: rest) a w := by
  refine wpList_plain hg fun K hK' => ?_
  unfold Oper.wp execOp
  have hp : (#[(0, x)] : Array (Nat × Operand)).map (fun (i, x) => (i, a.eval x)) = #[(0, .int .i64 i)] := by simp [hx]
  simp only [ho, hp, Sem.run_bind, b30i i w, Result.andThen_ok]
  exact hK' _ _ hK
theorem sg_size (i : Int) (L : List Int) (h : L.length = 280) : (sg i L).toArray.size = 281 := by rw [List.size_toArray, sg_len, h]
end Go.Proofs.YtfneopmgckejdaaDoor
