/-
  Lengths; two hashes are equal; a number of sixteen bits.
-/
import Derived.Test.YtgagcblddcibkaaDoorS25
namespace Go.Proofs.YtgagcblddcibkaaDoor
open Go.RowKit
open Go.Maps
theorem lk_len {L : List (Int × List Int)} (h : ∀ p ∈ L, p.2.length = 8) (i : Int) : (lk L i).length = 8 := by
  induction L with
  | nil => rfl
  | cons p r ih =>
    rw [lk]
    split
    · exact h p List.mem_cons_self
    · exact ih fun q hq => h q (List.mem_cons_of_mem _ hq)
theorem nd_lk_len {L : List (Int × List Int)} (h8 : ∀ p ∈ L, p.2.length = 8) : ∀ (h : Nat) (k : Int), (nd (lk L) h k).length = 8
  | 0, k => lk_len h8 k
  | h + 1, k => by rw [nd_succ]; exact ab_len _ _
theorem eq29 (x : List Int) (w : World) (hx : x.length = 8) : (Op.equalIn 10000 29 (.agg (ba x)) (.agg (ba x))).run Tryd.prog w = .ok true w := by
  have := eqh x x w hx hx
  rw [decide_eq_true rfl] at this
  exact this
theorem wf_u16 {i : Int} (h : (Lit.int .u16 i).wf = true) : 0 ≤ i ∧ i < 65536 := by
  have e1 : IntKind.u16.min = 0 := rfl
  have e2 : IntKind.u16.max = 65535 := rfl
  simp only [Lit.wf, e1, e2, Bool.and_eq_true, decide_eq_true_eq] at h
  omega
end Go.Proofs.YtgagcblddcibkaaDoor
