/-
  Guard over any function that ends or panics; awake.
-/
import Derived.Test.YtbolcpglkjjheaaW1
namespace Go.Proofs.Ytbolcpglkjjheaa
open Go.RowKit

theorem catch_panicking (u : TypeId) (pv : Value) (older : List PanicEntry) (w : World) :
    CallsD Try.prog 26 #[] (.panicking ({ v := .iface u pv, recovered := false } :: older)) w fun e u' w' =>
      e = .returned (.tuple #[]) ∧ u' = .panicking ({ v := .iface u pv, recovered := true } :: older) ∧ w' = w := by
  refine callsD_of_wpS Try.func26 rfl fun c₀ cs hu => ?_
  apply wpS_region
  simp [wpOpsS, go_sem, recoverD, hu, Try.ntmps26, bodyPostS, results, Try.results26]
theorem catch_idle (w : World) :
    CallsD Try.prog 26 #[] .returning w fun e u' w' => e = .returned (.tuple #[]) ∧ u' = .returning ∧ w' = w := by
  refine callsD_of_wpS Try.func26 rfl fun c₀ cs hu => ?_
  apply wpS_region
  cases c₀
  simp_all [wpOpsS, go_sem, recoverD, Try.ntmps26, bodyPostS, results, Try.results26]

theorem c19n (w : World) : Calls Try.prog 19 #[.nilFunc] w fun e w' => e = .returned (.bool true) ∧ w = w' := by
  have hnil : ∀ w : World, (binOp BinOp.eql 1 .nilFunc .nilFunc).run Try.prog w = .ok (.bool true) w := fun _ => by kernel_rfl
  go_enter_defers Try.func19, Try.ntmps19
  go_wp2
  simp [bodyPostD, Leaves, results, Try.results19, go_sem]

theorem c19p (F : Nat) (cap : Array Value) (w : World) (R : World → Prop) (hcf : ∀ w : World, (callFunc F cap).run Try.prog w = .ok (.enter F cap) w)
    (h : Calls Try.prog F cap w fun e w' => (∃ u v, e = .panicked [{ v := .iface u v, recovered := false }]) ∧ R w') :
    Calls Try.prog 19 #[.func (.func F) #[] cap] w fun e w' => e = .returned (.bool false) ∧ R w' := by
  have hnil : ∀ w : World, (binOp BinOp.eql 1 (.func (.func F) #[] cap) .nilFunc).run Try.prog w = .ok (.bool false) w := fun _ => rfl
  have H := Lib.hid h
  clear h
  go_enter_defers Try.func19, Try.ntmps19
  go_wp2_with fail
  refine H.out.mono ?_
  rintro e w' ⟨⟨u, v, rfl⟩, hR⟩
  have HR := Lib.hid hR
  clear hR
  refine leaves_cons (f := 26) (args := #[]) (by simp) (by simp [go_sem]) ?_
  refine (catch_panicking u v [] _).mono ?_
  rintro e u' w'' ⟨rfl, rfl, rfl⟩
  simp [Leaves, settle, results, Try.results19, go_sem]
  exact HR.out
theorem c19y (F : Nat) (cap : Array Value) (w : World) (R : World → Prop) (hcf : ∀ w : World, (callFunc F cap).run Try.prog w = .ok (.enter F cap) w)
    (h : Calls Try.prog F cap w fun e w' => e = .returned (.tuple #[]) ∧ R w') :
    Calls Try.prog 19 #[.func (.func F) #[] cap] w fun e w' => e = .returned (.bool true) ∧ R w' := by
  have hnil : ∀ w : World, (binOp BinOp.eql 1 (.func (.func F) #[] cap) .nilFunc).run Try.prog w = .ok (.bool false) w := fun _ => rfl
  have H := Lib.hid h
  clear h
  go_enter_defers Try.func19, Try.ntmps19
  go_wp2_with fail
  refine H.out.mono ?_
  rintro e w' ⟨rfl, hR⟩
  have HR := Lib.hid hR
  clear hR
  go_wp2_with fail
  refine leaves_cons (f := 26) (args := #[]) (by simp) (by simp [go_sem]) ?_
  refine (catch_idle _).mono ?_
  rintro e u' w'' ⟨rfl, rfl, rfl⟩
  simp [Leaves, settle, results, Try.results19, go_sem]
  exact HR.out

theorem c22 (w : World) : Calls Try.prog 22 #[] w fun e w' => (∃ u v, e = .panicked [{ v := .iface u v, recovered := false }]) ∧ w = w' := by
  have c := c18n 1125899906842624 1 w (by decide)
  have C := Lib.hid c
  clear c
  go_enter Try.func22, Try.ntmps22
  go_wp2_with (go_at_call 18; refine C.out.mono ?_; rintro e w' ⟨rfl, rfl⟩)
  exact ⟨rfl, ⟨_, _, rfl⟩, rfl⟩
theorem c23 (w : World) : Calls Try.prog 23 #[] w fun e w' => e = .returned (.tuple #[]) ∧ w = w' := by
  have c := c18y 1 1 w (by decide)
  have C := Lib.hid c
  clear c
  go_enter Try.func23, Try.ntmps23
  go_wp2_with (go_at_call 18; refine C.out.mono ?_; rintro e w' ⟨rfl, rfl⟩)
  go_end0
  exact ⟨rfl, rfl⟩
theorem c8 (w : World) : Calls Try.prog 8 #[] w fun e w' => e = .returned (.bool true) ∧ w = w' := by
  have m1 : addB 2 3 = true := by decide
  have m2 : addZ 2 3 = 5 := by decide
  have m3 : addB 1125899906842624 1 = false := by decide
  go_enter Try.func8, Try.ntmps8
  go_wp2_with (first | (go_at_call 9; refine (c9 _ _ _).mono ?_; rintro e w' ⟨rfl, rfl⟩) | (go_at_call 19; (with_reducible refine (c19p 22 _ _ _ (fun _ => by kernel_rfl) (c22 _)).mono ?_); rintro e w' ⟨rfl, rfl⟩) | (go_at_call 19; (with_reducible refine (c19y 23 _ _ _ (fun _ => by kernel_rfl) (c23 _)).mono ?_); rintro e w' ⟨rfl, rfl⟩))
  go_ret
  exact ⟨rfl, rfl⟩
end Go.Proofs.Ytbolcpglkjjheaa
