/-
  Short names.
-/
import Derived.Test.YtffaddefnpkcgaaGreatDoorZHC
import Derived.OrdersHeld
namespace Go.Proofs.YtffaddefnpkcgaaGreatDoor
open Go.RowKit
theorem ly1 : type_of% @List.getElem_toArray := @List.getElem_toArray
theorem ly2 : type_of% @List.getElem_cons_succ := @List.getElem_cons_succ
theorem ly3 : type_of% @List.getElem_cons_zero := @List.getElem_cons_zero
theorem ly4 : type_of% @List.setIfInBounds_toArray := @List.setIfInBounds_toArray
theorem ly5 : type_of% @List.set_cons_zero := @List.set_cons_zero
theorem ly6 : type_of% @List.set_cons_succ := @List.set_cons_succ
theorem tk {P : Program} {ops : Array Oper} {Q : Exit → Act → World → Prop} {md : Region.Mode} {S : World → Prop} {i : Nat} {oi : Oper} {v : Value} {fuel : Nat} {listed : Array Bool} {a : Act} {w : World} (hi : ops[i]? = some oi)
    (hy : YieldsIf P ops S oi v a) (hS : S w) (h : wpAnyH P md ops Q S fuel (listed.setIfInBounds i true) (a.put oi.dst v) w)
    (hs : Region.noSelect ops = true := by kernel_rfl) (hf : Region.free md ops listed i = true := by kernel_rfl) (hr : (Region.ready md ops listed).contains i = true := by kernel_rfl)
    (hQ : ∀ c a w, Q (.panic c) (a.put oi.dst v) w → Q (.panic c) a w := by exact fun _ _ _ h => h) : wpAnyH P md ops Q S (fuel + 1) listed a w := wpAnyH_take hi hs hf hr hQ hy hS h
end Go.Proofs.YtffaddefnpkcgaaGreatDoor
