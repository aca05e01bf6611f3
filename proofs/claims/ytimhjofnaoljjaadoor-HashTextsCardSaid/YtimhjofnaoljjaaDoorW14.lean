/-
  Two arrays of bytes are equal; one order of all hashes.
-/
import Derived.Test.YtimhjofnaoljjaaDoorW13
namespace Go.Proofs.YtimhjofnaoljjaaDoor
open Go.RowKit
theorem eq_byte (d : Nat) (a b : Int) (w : World) : (Op.equalIn (d + 1) 5 (.int .u8 a) (.int .u8 b)).run Tryd.prog w = .ok (a == b) w := by
  have hu : Tryd.prog.underlying 5 = some (.int .u8) := by kernel_rfl
  rw [Op.equalIn]
  simp [run_underlying hu]
theorem part_byte (xs : List Int) (i : Nat) (h : i < xs.length) (w : World) : (part 5 (ba xs) (i * 1)).run Tryd.prog w = .ok (.int .u8 (xs.getD i 0)) w := by
  have hu : Tryd.prog.underlying 5 = some (.int .u8) := by kernel_rfl
  simp [part, isAgg, run_underlying hu, ba, bvals, List.getD, h]
theorem eq_ba (t n d : Nat) (ht : Tryd.prog.underlying t = some (.array n 5)) (xs ys : List Int) (w : World) (hx : xs.length = n) (hy : ys.length = n) :
    (Op.equalIn (d + 2) t (.agg (ba xs)) (.agg (ba ys))).run Tryd.prog w = .ok (decide (xs = ys)) w := by
  have z5 := Tryd.sizeOf5
  rw [Op.equalIn]
  simp only [Sem.run_bind, run_underlying ht, Result.andThen_ok]
  have key : ∀ (L : List Nat) (hL : ∀ i ∈ L, i < n), Sem.run Tryd.prog (forIn L ((none, ()) : Option Bool × PUnit) fun i r => do
      let a ← part 5 (ba xs) (i * 1)
      let b ← part 5 (ba ys) (i * 1)
      let e ← Op.equalIn (d + 1) 5 a b
      if (!e) = true then pure (ForInStep.done (some false, ())) else pure (ForInStep.yield (none, ()))) w = .ok (if (∀ i ∈ L, xs.getD i 0 = ys.getD i 0) then (none, ()) else (some false, ())) w := by
    intro L
    induction L with
    | nil => intro _; simp
    | cons i L ih =>
      intro hL
      have hi := hL i (by simp)
      rw [List.forIn_cons]
      simp only [Sem.run_bind, part_byte xs i (by omega), part_byte ys i (by omega), Result.andThen_ok, eq_byte]
      by_cases e : xs.getD i 0 = ys.getD i 0
      · have := ih fun j hj => hL j (by simp [hj])
        simp only [e, beq_self_eq_true, Bool.not_true, Bool.false_eq_true, if_false, Sem.run_pure, Result.andThen_ok]
        rw [this]
        have e' : xs[i]?.getD 0 = ys[i]?.getD 0 := e
        simp [e']
      · have e' : ¬ xs[i]?.getD 0 = ys[i]?.getD 0 := e
        simp [e']
  simp only [z5, Result.andThen_ok, Std.Legacy.Range.forIn_eq_forIn_range', Std.Legacy.Range.size, Nat.sub_zero, Nat.add_sub_cancel, Nat.div_one]
  rw [key (List.range' 0 n) (fun i hi => by simp [List.mem_range'] at hi; omega)]
  have hall : (∀ i ∈ List.range' 0 n, xs.getD i 0 = ys.getD i 0) ↔ xs = ys := by
    constructor
    · intro h
      apply List.ext_getElem (by omega)
      intro i h1 h2
      have := h i (by simp [List.mem_range']; omega)
      simpa [List.getD, h1, h2] using this
    · rintro rfl _ _
      rfl
  by_cases e : xs = ys
  · rw [if_pos (hall.2 e)]
    simp [e]
  · rw [if_neg (fun h => e (hall.1 h))]
    simp [e]
/-- one order of all lists of bytes -/
theorem cb_swap : ∀ (a b : List UInt8), Lib.compareBytes b a = - Lib.compareBytes a b
  | [], [] => rfl
  | [], _ :: _ => rfl
  | _ :: _, [] => rfl
  | a :: ar, b :: bs => by
    simp only [Lib.compareBytes]
    by_cases h1 : a < b
    · have h2 : ¬ b < a := fun h => UInt8.lt_irrefl _ (UInt8.lt_trans h1 h)
      simp [h1, h2]
    · by_cases h2 : b < a
      · simp [h1, h2]
      · simp [h1, h2, cb_swap ar bs]
theorem cb_zero : ∀ (a b : List UInt8), Lib.compareBytes a b = 0 → a = b
  | [], [], _ => rfl
  | [], _ :: _, h => by simp [Lib.compareBytes] at h
  | _ :: _, [], h => by simp [Lib.compareBytes] at h
  | a :: ar, b :: bs, h => by
    simp only [Lib.compareBytes] at h
    by_cases h1 : a < b
    · simp [h1] at h
    · by_cases h2 : b < a
      · simp [h1, h2] at h
      · simp [h1, h2] at h
        rw [UInt8.le_antisymm (UInt8.not_lt.1 h2) (UInt8.not_lt.1 h1), cb_zero ar bs h]
theorem cb_same : ∀ (a : List UInt8), Lib.compareBytes a a = 0
  | [] => rfl
  | a :: ar => by simp [Lib.compareBytes, UInt8.lt_irrefl, cb_same ar]
theorem cb_trans : ∀ (a b c : List UInt8), Lib.compareBytes a b < 0 → Lib.compareBytes b c < 0 → Lib.compareBytes a c < 0
  | [], [], _, h, _ => by simp [Lib.compareBytes] at h
  | [], _ :: _, [], _, k => by simp [Lib.compareBytes] at k
  | [], _ :: _, _ :: _, _, _ => by simp [Lib.compareBytes]
  | _ :: _, [], _, h, _ => by simp [Lib.compareBytes] at h
  | _ :: _, _ :: _, [], _, k => by simp [Lib.compareBytes] at k
  | a :: ar, b :: bs, c :: cs, h, k => by
    simp only [Lib.compareBytes] at h k ⊢
    by_cases h1 : a < b
    · by_cases k1 : b < c
      · simp [UInt8.lt_trans h1 k1]
      · by_cases k2 : c < b
        · simp [k1, k2] at k
        · have e : b = c := UInt8.le_antisymm (UInt8.not_lt.1 k2) (UInt8.not_lt.1 k1)
          subst e
          simp [h1]
    · by_cases h2 : b < a
      · simp [h1, h2] at h
      · have e : a = b := UInt8.le_antisymm (UInt8.not_lt.1 h2) (UInt8.not_lt.1 h1)
        subst e
        simp only [h1, if_false] at h
        by_cases k1 : a < c
        · simp [k1]
        · by_cases k2 : c < a
          · simp [k1, k2] at k
          · simp only [k1, k2, if_false] at k ⊢
            exact cb_trans ar bs cs h k
theorem less_both (x y : List Int) (h1 : lessB x y = true) (h2 : lessB y x = true) : False := by
  simp only [lessB, decide_eq_true_eq] at h1 h2
  rw [cb_swap] at h2
  omega
theorem less_trans {x y z : List Int} (h1 : lessB x y = true) (h2 : lessB y z = true) : lessB x z = true := by
  simp only [lessB, decide_eq_true_eq] at *
  exact cb_trans _ _ _ h1 h2
theorem bytes_inj : ∀ {x y : List Int}, Byt x → Byt y → Lib.bytesOf x = Lib.bytesOf y → x = y
  | [], [], _, _, _ => rfl
  | [], _ :: _, _, _, h => by simp [Lib.bytesOf] at h
  | _ :: _, [], _, _, h => by simp [Lib.bytesOf] at h
  | a :: x, b :: y, hx, hy, h => by
    have ha := hx a (by simp)
    have hb := hy b (by simp)
    simp only [Lib.bytesOf, List.map_cons, List.cons.injEq] at h
    have e : a = b := by
      have := congrArg UInt8.toNat h.1
      simp at this
      omega
    rw [e, bytes_inj (fun z hz => hx z (by simp [hz])) (fun z hz => hy z (by simp [hz])) h.2]
theorem less_eq {x y : List Int} (hx : Byt x) (hy : Byt y) : (!lessB x y && !lessB y x) = decide (x = y) := by
  by_cases e : x = y
  · subst e
    simp [lessB, cb_same]
  · have : Lib.compareBytes (Lib.bytesOf x) (Lib.bytesOf y) ≠ 0 := fun h => e (bytes_inj hx hy (cb_zero _ _ h))
    have k := cb_swap (Lib.bytesOf x) (Lib.bytesOf y)
    simp [lessB, e]
    omega
end Go.Proofs.YtimhjofnaoljjaaDoor
