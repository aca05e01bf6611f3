/-
  Two proofs are equal.
-/
import Derived.Test.YtgagcblddcibkaaDoorS32
import Derived.Deep.RegionHeld3
namespace Go.Proofs.YtgagcblddcibkaaDoor
open Go.RowKit
open Go.Maps
theorem part29 (xs : List Int) (i : Nat) (w : World) : (part 29 (ba xs) (i * 8)).run Tryd.prog w = .ok (.agg (ba ((xs.drop (i * 8)).take 8))) w := by
  have h1 := Tryd.sizeOf29
  have hu : Tryd.prog.underlying 29 = some (.array 8 5) := Tryd.underlying29
  have e : (ba xs).extract (i * 8) (i * 8 + 8) = ba ((xs.drop (i * 8)).take 8) := by
    apply Array.ext'
    simp [ba, bvals, List.map_drop, List.map_take]
    try (rw [List.drop_take]; simp)
  simp [part, isAgg, run_underlying hu, h1, Result.andThen, e]
theorem eq30 (xs : List Int) (w : World) (hx : xs.length = 128) : (Op.equalIn 10000 30 (.agg (ba xs)) (.agg (ba xs))).run Tryd.prog w = .ok true w := by
  have z29 := Tryd.sizeOf29
  rw [Op.equalIn]
  simp only [Sem.run_bind, run_underlying Tryd.underlying30, Result.andThen_ok]
  have key : ∀ (L : List Nat) (hL : ∀ i ∈ L, i < 16), Sem.run Tryd.prog (forIn L ((none, ()) : Option Bool × PUnit) fun i r => do
      let a ← part 29 (ba xs) (i * 8)
      let b ← part 29 (ba xs) (i * 8)
      let e ← Op.equalIn 9999 29 a b
      if (!e) = true then pure (ForInStep.done (some false, ())) else pure (ForInStep.yield (none, ()))) w = .ok (none, ()) w := by
    intro L
    induction L with
    | nil => intro _; simp
    | cons i L ih =>
      intro hL
      have hi := hL i (by simp)
      have hl : ((xs.drop (i * 8)).take 8).length = 8 := by rw [List.length_take, List.length_drop]; omega
      rw [List.forIn_cons]
      have he := eq_ba 29 8 9997 Tryd.underlying29 ((xs.drop (i * 8)).take 8) ((xs.drop (i * 8)).take 8) w hl hl
      rw [decide_eq_true rfl] at he
      simp only [Sem.run_bind, part29, Result.andThen_ok, he, Bool.not_true, Bool.false_eq_true, if_false, Sem.run_pure]
      exact ih fun j hj => hL j (by simp [hj])
  simp only [z29, Result.andThen_ok, Std.Legacy.Range.forIn_eq_forIn_range', Std.Legacy.Range.size, Nat.sub_zero, Nat.add_sub_cancel, Nat.div_one]
  rw [key (List.range' 0 16) (fun i hi => by simp [List.mem_range'] at hi; omega)]
  simp
theorem eq29 (x : List Int) (w : World) (hx : x.length = 8) : (Op.equalIn 10000 29 (.agg (ba x)) (.agg (ba x))).run Tryd.prog w = .ok true w := by
  have := eqh x x w hx hx
  rw [decide_eq_true rfl] at this
  exact this
end Go.Proofs.YtgagcblddcibkaaDoor
