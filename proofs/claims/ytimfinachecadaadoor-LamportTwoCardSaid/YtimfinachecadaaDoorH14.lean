/-
  Two arrays of bytes are equal; one order of all hashes.
-/
import Derived.Test.YtimfinachecadaaDoorH1
namespace Go.Proofs.YtimfinachecadaaDoor
open Go.RowKit
theorem eq_byte (d : Nat) (a b : Int) (w : World) : (Op.equalIn (d + 1) 5 (.int .u8 a) (.int .u8 b)).run Tryd.prog w = .ok (a == b) w := by
  have hu : Tryd.prog.underlying 5 = some (.int .u8) := by kernel_rfl
  rw [Op.equalIn]
  simp [run_underlying hu]
theorem part_byte (xs : List Int) (i : Nat) (h : i < xs.length) (w : World) : (part 5 (ba xs) (i * 1)).run Tryd.prog w = .ok (.int .u8 (xs.getD i 0)) w := by
  have hu : Tryd.prog.underlying 5 = some (.int .u8) := by kernel_rfl
  simp [part, isAgg, run_underlying hu, ba, bvals, List.getD, h]
theorem eq_ba (t n d : Nat) (ht : Tryd.prog.underlying t = some (.array n 5)) (xs ys : List Int) (w : World) (hx : xs.length = n) (hy : ys.length = n) :
    (Op.equalIn (d + 2) t (.agg (ba xs)) (.agg (ba ys))).run Tryd.prog w = .ok (decide (xs = ys)) w := by
  have z5 := Tryd.sizeOf5
  rw [Op.equalIn]
  simp only [Sem.run_bind, run_underlying ht, Result.andThen_ok]
  have key : ∀ (L : List Nat) (hL : ∀ i ∈ L, i < n), Sem.run Tryd.prog (forIn L ((none, ()) : Option Bool × PUnit) fun i r => do
      let a ← part 5 (ba xs) (i * 1)
      let b ← part 5 (ba ys) (i * 1)
      let e ← Op.equalIn (d + 1) 5 a b
      if (!e) = true then pure (ForInStep.done (some false, ())) else pure (ForInStep.yield (none, ()))) w = .ok (if (∀ i ∈ L, xs.getD i 0 = ys.getD i 0) then (none, ()) else (some false, ())) w := by
    intro L
    induction L with
    | nil => intro _; simp
    | cons i L ih =>
      intro hL
      have hi := hL i (by simp)
      rw [List.forIn_cons]
      simp only [Sem.run_bind, part_byte xs i (by omega), part_byte ys i (by omega), Result.andThen_ok, eq_byte]
      by_cases e : xs.getD i 0 = ys.getD i 0
      · have := ih fun j hj => hL j (by simp [hj])
        simp only [e, beq_self_eq_true, Bool.not_true, Bool.false_eq_true, if_false, Sem.run_pure, Result.andThen_ok]
        rw [this]
        have e' : xs[i]?.getD 0 = ys[i]?.getD 0 := e
        simp [e']
      · have e' : ¬ xs[i]?.getD 0 = ys[i]?.getD 0 := e
        simp [e']
  simp only [z5, Result.andThen_ok, Std.Legacy.Range.forIn_eq_forIn_range', Std.Legacy.Range.size, Nat.sub_zero, Nat.add_sub_cancel, Nat.div_one]
  rw [key (List.range' 0 n) (fun i hi => by simp [List.mem_range'] at hi; omega)]
  have hall : (∀ i ∈ List.range' 0 n, xs.getD i 0 = ys.getD i 0) ↔ xs = ys := by
    constructor
    · intro h
      apply List.ext_getElem (by omega)
      intro i h1 h2
      have := h i (by simp [List.mem_range']; omega)
      simpa [List.getD, h1, h2] using this
    · rintro rfl _ _
      rfl
  by_cases e : xs = ys
  · rw [if_pos (hall.2 e)]
    simp [e]
  · rw [if_neg (fun h => e (hall.1 h))]
    simp [e]
end Go.Proofs.YtimfinachecadaaDoor
