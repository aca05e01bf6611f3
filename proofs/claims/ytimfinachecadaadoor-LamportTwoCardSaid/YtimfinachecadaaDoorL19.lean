/-
  Two rows of hashes are equal; what the document signs is what the key signs.
-/
import Derived.Test.YtimfinachecadaaDoorL15
import Derived.Test.YtimfinachecadaaDoorL17
namespace Go.Proofs.YtimfinachecadaaDoor
open Go.RowKit
theorem part23 (xs : List Int) (i : Nat) (w : World) : (part 23 (ba xs) (i * 8)).run Tryd.prog w = .ok (.agg (ba ((xs.drop (i * 8)).take 8))) w := by
  have h1 := Tryd.sizeOf23
  have hu : Tryd.prog.underlying 23 = some (.array 8 5) := Tryd.underlying23
  have e := ba_extract xs (i * 8) 8
  simp [part, isAgg, run_underlying hu, h1, Result.andThen, e]
theorem eq27 (xs : List Int) (w : World) (hx : xs.length = 128) : (Op.equalIn 10000 27 (.agg (ba xs)) (.agg (ba xs))).run Tryd.prog w = .ok true w := by
  have z29 := Tryd.sizeOf23
  rw [Op.equalIn]
  simp only [Sem.run_bind, run_underlying Tryd.underlying27, Result.andThen_ok]
  have key : ∀ (L : List Nat) (hL : ∀ i ∈ L, i < 16), Sem.run Tryd.prog (forIn L ((none, ()) : Option Bool × PUnit) fun i r => do
      let a ← part 23 (ba xs) (i * 8)
      let b ← part 23 (ba xs) (i * 8)
      let e ← Op.equalIn 9999 23 a b
      if (!e) = true then pure (ForInStep.done (some false, ())) else pure (ForInStep.yield (none, ()))) w = .ok (none, ()) w := by
    intro L
    induction L with
    | nil => intro _; simp
    | cons i L ih =>
      intro hL
      have hi := hL i (by simp)
      have hl : ((xs.drop (i * 8)).take 8).length = 8 := by rw [List.length_take, List.length_drop]; omega
      rw [List.forIn_cons]
      have he := eq_ba 23 8 9997 Tryd.underlying23 ((xs.drop (i * 8)).take 8) ((xs.drop (i * 8)).take 8) w hl hl
      rw [decide_eq_true rfl] at he
      simp only [Sem.run_bind, part23, Result.andThen_ok, he, Bool.not_true, Bool.false_eq_true, if_false, Sem.run_pure]
      exact ih fun j hj => hL j (by simp [hj])
  simp only [z29, Result.andThen_ok, Std.Legacy.Range.forIn_eq_forIn_range', Std.Legacy.Range.size, Nat.sub_zero, Nat.add_sub_cancel, Nat.div_one]
  rw [key (List.range' 0 16) (fun i hi => by simp [List.mem_range'] at hi; omega)]
  simp
theorem open_doc (seed : List Int) (x : Int) (m : List Int) : cat (oF seed x m) 16 = cat (openF (cat (keyF seed x) 32) m) 16 := by
  refine cat_ext fun j hj => ?_
  have hb := bt_two m j
  unfold oF openF
  rw [at8_key seed x j _ hj (by omega)]
theorem shut_doc (seed : List Int) (x : Int) (m : List Int) : cat (sF seed x m) 16 = cat (shutF (cat (keyF seed x) 32) m) 16 := by
  refine cat_ext fun j hj => ?_
  have hb := bt_two m j
  unfold sF shutF
  rw [at8_key seed x j _ hj (by omega)]
end Go.Proofs.YtimfinachecadaaDoor
