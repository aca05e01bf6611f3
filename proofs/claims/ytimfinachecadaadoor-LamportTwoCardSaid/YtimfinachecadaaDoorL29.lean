/-
  LamportTwo's walk at any number that comes in.
-/
import Derived.Test.YtimfinachecadaaDoorL28
namespace Go.Proofs.YtimfinachecadaaDoor
open Go.RowKit
theorem wf_u16 {i : Int} (h : (Lit.int .u16 i).wf = true) : 0 ≤ i ∧ i < 65536 := by
  have e1 : IntKind.u16.min = 0 := rfl
  have e2 : IntKind.u16.max = 65535 := rfl
  simp only [Lit.wf, e1, e2, Bool.and_eq_true, decide_eq_true_eq] at h
  omega
theorem q7i (seed n4 : List Int) (mix : Int) (w : World) (hk : Keys w) (hs : seed.length = 8) (hn : n4.length = 4) (hbn : Byt n4) (hw : (Lit.int .u16 mix).wf = true) :
    Calls Tryd.prog 7 #[.agg (ba seed), .agg (ba n4), .int .u16 mix] w fun e w' => e = .returned (.bool true) ∧ Below w.heap.size w w' := by
  have h := wf_u16 hw
  obtain ⟨m, rfl⟩ := Int.eq_ofNat_of_zero_le h.1
  exact q7 seed n4 m w hk hs hn hbn (by omega)
end Go.Proofs.YtimfinachecadaaDoor
