/-
  Two signatures that are alike are equal.
-/
import Derived.Test.YtkmfmkonejdjiaaDoorK8
namespace Go.Proofs.YtkmfmkonejdjiaaDoor
open Go.RowKit
theorem part23s (xs : List Int) (i : Nat) (w : World) : (part 23 (ba xs) (i * 8)).run Tryd.prog w = .ok (.agg (ba ((xs.drop (i * 8)).take 8))) w := part23 xs i w
theorem eq_arr (t len d : Nat) (ht : Tryd.prog.underlying t = some (.array len 23)) (xs : List Int) (w : World) (hx : xs.length = 8 * len) : (Op.equalIn (d + 3) t (.agg (ba xs)) (.agg (ba xs))).run Tryd.prog w = .ok true w := by
  have z29 := Tryd.sizeOf23
  rw [Op.equalIn]
  simp only [Sem.run_bind, run_underlying ht, Result.andThen_ok]
  have key : ∀ (L : List Nat) (hL : ∀ i ∈ L, i < len), Sem.run Tryd.prog (forIn L ((none, ()) : Option Bool × PUnit) fun i r => do
      let a ← part 23 (ba xs) (i * 8)
      let b ← part 23 (ba xs) (i * 8)
      let e ← Op.equalIn (d + 2) 23 a b
      if (!e) = true then pure (ForInStep.done (some false, ())) else pure (ForInStep.yield (none, ()))) w = .ok (none, ()) w := by
    intro L
    induction L with
    | nil => intro _; simp
    | cons i L ih =>
      intro hL
      have hi := hL i (by simp)
      have hl : ((xs.drop (i * 8)).take 8).length = 8 := by rw [List.length_take, List.length_drop]; omega
      rw [List.forIn_cons]
      have he := eq_ba 23 8 d Tryd.underlying23 ((xs.drop (i * 8)).take 8) ((xs.drop (i * 8)).take 8) w hl hl
      rw [decide_eq_true rfl] at he
      simp only [Sem.run_bind, part23, Result.andThen_ok, he, Bool.not_true, Bool.false_eq_true, if_false, Sem.run_pure]
      exact ih fun j hj => hL j (by simp [hj])
  simp only [z29, Result.andThen_ok, Std.Legacy.Range.forIn_eq_forIn_range', Std.Legacy.Range.size, Nat.sub_zero, Nat.add_sub_cancel, Nat.div_one]
  rw [key (List.range' 0 len) (fun i hi => by simp [List.mem_range'] at hi; omega)]
  simp
theorem sg_ext (i : Int) (L : List Int) (o n : Nat) : (sg i L).toArray.extract (o + 1) (o + 1 + n) = ba ((L.drop o).take n) := by
  apply Array.ext'
  simp [sg, ba, bvals, List.map_drop, List.map_take]
theorem part_arr (t len e n : Nat) (ht : Tryd.prog.underlying t = some (.array len e)) (hs : ∀ w, (sizeOf t).run Tryd.prog w = .ok n w) (cs : Array Value) (off : Nat) (w : World) : (part t cs off).run Tryd.prog w = .ok (.agg (cs.extract off (off + n))) w := by
  simp [part, isAgg, run_underlying ht, hs, Result.andThen]
theorem part30o (i : Int) (L : List Int) (w : World) : (part 27 (sg i L).toArray 1).run Tryd.prog w = .ok (.agg (ba (opn L))) w := by
  rw [part_arr 27 16 23 128 Tryd.underlying27 Tryd.sizeOf27]
  exact congrArg (fun x => Result.ok (Value.agg x) w) (sg_ext i L 0 128)
theorem part30s (i : Int) (L : List Int) (w : World) : (part 27 (sg i L).toArray 129).run Tryd.prog w = .ok (.agg (ba (sht L))) w := by
  rw [part_arr 27 16 23 128 Tryd.underlying27 Tryd.sizeOf27]
  exact congrArg (fun x => Result.ok (Value.agg x) w) (sg_ext i L 128 128)
theorem part30w (i : Int) (L : List Int) (hL : L.length = 280) (w : World) : (part 28 (sg i L).toArray 257).run Tryd.prog w = .ok (.agg (ba (way L))) w := by
  rw [part_arr 28 3 23 24 Tryd.underlying28 Tryd.sizeOf28]
  have e := sg_ext i L 256 24
  rw [List.take_of_length_le (by rw [List.length_drop]; omega)] at e
  exact congrArg (fun x => Result.ok (Value.agg x) w) e
theorem part30i (i : Int) (L : List Int) (w : World) : (part 3 (sg i L).toArray 0).run Tryd.prog w = .ok (.int .i64 i) w := by
  have hu : Tryd.prog.underlying 3 = some (.int .i64) := by kernel_rfl
  simp [part, isAgg, run_underlying hu, sg]
theorem eq_sig (i : Int) (L : List Int) (hL : L.length = 280) (w : World) : (Op.equalIn 10000 30 (.agg (sg i L).toArray) (.agg (sg i L).toArray)).run Tryd.prog w = .ok true w := by
  have hst : Tryd.prog.stoodInHeld 30 = false := by kernel_rfl
  have e0 : (Op.equalIn 9999 3 (.int .i64 i) (.int .i64 i)).run Tryd.prog w = .ok true w := by
    have hu : Tryd.prog.underlying 3 = some (.int .i64) := by kernel_rfl
    rw [Op.equalIn]
    simp [run_underlying hu]
  have e1 := eq_arr 27 16 9996 Tryd.underlying27 (opn L) w (opn_len hL)
  have e2 := eq_arr 27 16 9996 Tryd.underlying27 (sht L) w (sht_len hL)
  have e3 := eq_arr 28 3 9996 Tryd.underlying28 (way L) w (way_len hL)
  rw [Op.equalIn]
  simp [run_underlying Tryd.underlying30, hst, part30i, part30o, part30s, part30w i L hL, e0, e1, e2, e3]
end Go.Proofs.YtkmfmkonejdjiaaDoor
