/-
  Read over any function: that ends, that a Reader stops, that panics otherwise, none.
-/
import Derived.Test.YtjkhbddnbpnmcaaW15
namespace Go.Proofs.Ytjkhbddnbpnmcaa
open Go.RowKit

theorem catch_short (p : Addr) (x : Int) (older : List PanicEntry) (w : World) (hc : w.cell? p = some (.int .i64 x)) (hz : w.frozen? p = false) :
    CallsD Try.prog 38 #[.pointer (some p)] (.panicking ({ v := .iface 62 (.string endText), recovered := false } :: older)) w fun e u' w' =>
      e = .returned (.tuple #[]) ∧ u' = .panicking ({ v := .iface 62 (.string endText), recovered := true } :: older) ∧ w' = w.setCell p (.int .i64 2) := by
  have hta : ∀ w : World, (Instr.typeAssert (.iface 62 (.string endText)) 20 62 true).run Try.prog w = .ok (.tuple #[.string endText, .bool true]) w := fun w => by kernel_rfl
  refine callsD_of_wpS Try.func38 rfl fun c₀ cs hu => ?_
  apply wpS_seq
  apply wpS_region
  simp [wpOpsS, go_sem, recoverD, hu, Try.ntmps38, Exit.thenS, hta]
  apply wpS_seq
  apply wpS_region
  simp [wpOpsS, go_sem, Exit.thenS]
  refine wpS_cond (t := true) (by simp [Act.eval, Array.replicate]) ?_
  simp only [if_true]
  apply wpS_region
  simp [wpOpsS, go_sem, hc, hz, bodyPostS, results, Try.results38]
theorem catch_other (p : Addr) (pv : Value) (older : List PanicEntry) (w : World) :
    CallsD Try.prog 38 #[.pointer (some p)] (.panicking ({ v := .iface 9 pv, recovered := false } :: older)) w fun e u' w' =>
      e = .returned (.tuple #[]) ∧ u' = .panicking ({ v := .iface 9 pv, recovered := true } :: older) ∧ w' = w := by
  have hta : ∀ w : World, (Instr.typeAssert (.iface 9 pv) 20 62 true).run Try.prog w = .ok (.tuple #[.string ByteArray.empty, .bool false]) w := fun w => by kernel_rfl
  refine callsD_of_wpS Try.func38 rfl fun c₀ cs hu => ?_
  apply wpS_seq
  apply wpS_region
  simp [wpOpsS, go_sem, recoverD, hu, Try.ntmps38, Exit.thenS, hta]
  apply wpS_seq
  apply wpS_region
  simp [wpOpsS, go_sem, Exit.thenS]
  refine wpS_cond (t := false) (by simp [Act.eval, Array.replicate]) ?_
  simp only [Bool.false_eq_true, if_false]
  refine wpS_of_wp (wp_skip ?_)
  cases c₀
  simp_all [bodyPostS, results, Try.results38]
theorem catch_idle (p : Addr) (w : World) :
    CallsD Try.prog 38 #[.pointer (some p)] .returning w fun e u' w' => e = .returned (.tuple #[]) ∧ u' = .returning ∧ w' = w := by
  have hta : ∀ w : World, (Instr.typeAssert .nilIface 20 62 true).run Try.prog w = .ok (.tuple #[.string ByteArray.empty, .bool false]) w := fun w => by kernel_rfl
  refine callsD_of_wpS Try.func38 rfl fun c₀ cs hu => ?_
  apply wpS_seq
  apply wpS_region
  simp [wpOpsS, go_sem, recoverD, hu, Try.ntmps38, Exit.thenS, hta]
  apply wpS_seq
  apply wpS_region
  simp [wpOpsS, go_sem, Exit.thenS]
  refine wpS_cond (t := false) (by simp [Act.eval, Array.replicate]) ?_
  simp only [Bool.false_eq_true, if_false]
  refine wpS_of_wp (wp_skip ?_)
  cases c₀
  simp_all [bodyPostS, results, Try.results38]

theorem c29n (v : Value) (w : World) : Calls Try.prog 29 #[.nilFunc, v] w fun e w' => e = .returned (.int .i64 0) ∧ w.alloc (Obj.cells #[.int .i64 0] 32) = w' := by
  have hnil : ∀ w : World, (binOp BinOp.eql 41 .nilFunc .nilFunc).run Try.prog w = .ok (.bool true) w := fun _ => by kernel_rfl
  go_enter_defers Try.func29, Try.ntmps29
  go_wp2
  simp [bodyPostD, Leaves, results, Try.results29, go_sem]
/-- the block of the result of 'call' -/
def Own (Cb : Nat) (w : World) : Prop := w.heap[Cb]? = some (.cells #[.int .i64 4] 32 (0, 0))
theorem c29y (F Rb : Nat) (cap : Array Value) (w : World) (R : World → Prop) (hcf : ∀ w : World, (callFunc F (#[.pointer (some ⟨Rb, 0, none⟩)] ++ cap)).run Try.prog w = .ok (.enter F (#[.pointer (some ⟨Rb, 0, none⟩)] ++ cap)) w)
    (h : Calls Try.prog F (#[.pointer (some ⟨Rb, 0, none⟩)] ++ cap) (w.alloc (Obj.cells #[.int .i64 4] 32)) fun e w' => e = .returned (.tuple #[]) ∧ Own w.heap.size w' ∧ R w') :
    Calls Try.prog 29 #[.func (.func F) #[] cap, .pointer (some ⟨Rb, 0, none⟩)] w fun e w' => e = .returned (.int .i64 0) ∧ ∃ w1, R w1 ∧ Own w.heap.size w1 ∧ w' = w1.setCell ⟨w.heap.size, 0, none⟩ (.int .i64 0) := by
  have hnil : ∀ w : World, (binOp BinOp.eql 41 (.func (.func F) #[] cap) .nilFunc).run Try.prog w = .ok (.bool false) w := fun _ => rfl
  have hmf : ∀ (fn : Fn) (first cap : Array Value) (w : World), (Instr.makeFunc fn first cap).run Try.prog w = .ok (.func fn first cap) w := fun _ _ _ _ => rfl
  have H := Lib.hid h
  clear h
  go_enter_defers Try.func29, Try.ntmps29
  go_wp2_with fail
  refine H.out.mono ?_
  rintro e w1 ⟨rfl, ho, hR⟩
  have hc := cell_of_one ho
  have hf := free_of_one ho
  have HO := Lib.hid ho
  have HR := Lib.hid hR
  clear hR ho
  go_wp2_with fail
  refine leaves_cons (f := 38) (args := #[.pointer (some ⟨w.heap.size, 0, none⟩)]) (by simp) (by simp [go_sem]) ?_
  refine (catch_idle _ _).mono ?_
  rintro e u' w'' ⟨rfl, rfl, rfl⟩
  have hc2 := cell_of_one (one_setCell (u := .int .i64 0) HO.out)
  simp [Leaves, settle, results, Try.results29, go_sem, hc2]
  exact ⟨w1, HR.out, HO.out, rfl⟩
theorem c29s (F Rb : Nat) (cap : Array Value) (w : World) (R : World → Prop) (hcf : ∀ w : World, (callFunc F (#[.pointer (some ⟨Rb, 0, none⟩)] ++ cap)).run Try.prog w = .ok (.enter F (#[.pointer (some ⟨Rb, 0, none⟩)] ++ cap)) w)
    (h : Calls Try.prog F (#[.pointer (some ⟨Rb, 0, none⟩)] ++ cap) (w.alloc (Obj.cells #[.int .i64 4] 32)) fun e w' => Short e ∧ Own w.heap.size w' ∧ R w') :
    Calls Try.prog 29 #[.func (.func F) #[] cap, .pointer (some ⟨Rb, 0, none⟩)] w fun e w' => e = .returned (.int .i64 2) ∧ ∃ w1, R w1 ∧ Own w.heap.size w1 ∧ w' = w1.setCell ⟨w.heap.size, 0, none⟩ (.int .i64 2) := by
  have hnil : ∀ w : World, (binOp BinOp.eql 41 (.func (.func F) #[] cap) .nilFunc).run Try.prog w = .ok (.bool false) w := fun _ => rfl
  have hmf : ∀ (fn : Fn) (first cap : Array Value) (w : World), (Instr.makeFunc fn first cap).run Try.prog w = .ok (.func fn first cap) w := fun _ _ _ _ => rfl
  have H := Lib.hid h
  clear h
  go_enter_defers Try.func29, Try.ntmps29
  go_wp2_with fail
  refine H.out.mono ?_
  rintro e w1 ⟨rfl, ho, hR⟩
  have hc := cell_of_one ho
  have hf := free_of_one ho
  have HO := Lib.hid ho
  have HR := Lib.hid hR
  clear hR ho
  refine leaves_cons (f := 38) (args := #[.pointer (some ⟨w.heap.size, 0, none⟩)]) (by simp) (by simp [go_sem]) ?_
  refine (catch_short _ 4 [] _ hc hf).mono ?_
  rintro e u' w'' ⟨rfl, rfl, rfl⟩
  have hc2 := cell_of_one (one_setCell (u := .int .i64 2) HO.out)
  simp [Leaves, settle, results, Try.results29, go_sem, hc2]
  exact ⟨w1, HR.out, HO.out, rfl⟩
theorem c29o (F Rb : Nat) (cap : Array Value) (w : World) (R : World → Prop) (hcf : ∀ w : World, (callFunc F (#[.pointer (some ⟨Rb, 0, none⟩)] ++ cap)).run Try.prog w = .ok (.enter F (#[.pointer (some ⟨Rb, 0, none⟩)] ++ cap)) w)
    (h : Calls Try.prog F (#[.pointer (some ⟨Rb, 0, none⟩)] ++ cap) (w.alloc (Obj.cells #[.int .i64 4] 32)) fun e w' => (∃ t, e = .panicked [{ v := .iface 9 t, recovered := false }]) ∧ Own w.heap.size w' ∧ R w') :
    Calls Try.prog 29 #[.func (.func F) #[] cap, .pointer (some ⟨Rb, 0, none⟩)] w fun e w' => e = .returned (.int .i64 4) ∧ R w' := by
  have hnil : ∀ w : World, (binOp BinOp.eql 41 (.func (.func F) #[] cap) .nilFunc).run Try.prog w = .ok (.bool false) w := fun _ => rfl
  have hmf : ∀ (fn : Fn) (first cap : Array Value) (w : World), (Instr.makeFunc fn first cap).run Try.prog w = .ok (.func fn first cap) w := fun _ _ _ _ => rfl
  have H := Lib.hid h
  clear h
  go_enter_defers Try.func29, Try.ntmps29
  go_wp2_with fail
  refine H.out.mono ?_
  rintro e w1 ⟨⟨t, rfl⟩, ho, hR⟩
  have hc := cell_of_one ho
  have HR := Lib.hid hR
  clear hR ho
  refine leaves_cons (f := 38) (args := #[.pointer (some ⟨w.heap.size, 0, none⟩)]) (by simp) (by simp [go_sem]) ?_
  refine (catch_other _ t [] _).mono ?_
  rintro e u' w'' ⟨rfl, rfl, rfl⟩
  simp [Leaves, settle, results, Try.results29, go_sem, hc]
  exact HR.out
end Go.Proofs.Ytjkhbddnbpnmcaa
