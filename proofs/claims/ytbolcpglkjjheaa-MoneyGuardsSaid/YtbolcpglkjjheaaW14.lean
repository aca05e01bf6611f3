/-
  MoneyGuards: the function that goes down, from any depth; what is guarded.
-/
import Derived.Test.YtbolcpglkjjheaaW13
namespace Go.Proofs.Ytbolcpglkjjheaa
open Go.RowKit


theorem c17y (Bf Bl Bn Bs : Nat) (w : World) (R : World → Prop) (hf : w.cell? ⟨Bf, 0, none⟩ = some (.func (.func 17) #[] #[.pointer (some ⟨Bf, 0, none⟩), .pointer (some ⟨Bl, 0, none⟩), .pointer (some ⟨Bn, 0, none⟩), .pointer (some ⟨Bs, 0, none⟩)]))
    (h0 : Calls Try.prog 17 #[.int .i64 0, .pointer (some ⟨Bf, 0, none⟩), .pointer (some ⟨Bl, 0, none⟩), .pointer (some ⟨Bn, 0, none⟩), .pointer (some ⟨Bs, 0, none⟩)] w fun e w' => e = .returned (.tuple #[]) ∧ R w') (k : Nat) :
    ∀ n : Int, n ≤ k → 0 ≤ n → n ≤ 100 → Calls Try.prog 17 #[.int .i64 n, .pointer (some ⟨Bf, 0, none⟩), .pointer (some ⟨Bl, 0, none⟩), .pointer (some ⟨Bn, 0, none⟩), .pointer (some ⟨Bs, 0, none⟩)] w fun e w' => e = .returned (.tuple #[]) ∧ R w' := by
  induction k with
  | zero =>
    intro n h1 h2 _
    obtain rfl : n = 0 := by omega
    exact h0
  | succ k ih =>
    intro n h1 h2 h3
    by_cases hn : n = 0
    · subst hn; exact h0
    have hp : 0 < n := by omega
    have IH := Lib.hid (ih (n - 1) (by omega) (by omega) (by omega))
    clear h0 ih h1 hn
    go_enter Try.func17, Try.ntmps17
    go_wp2_with fail
    refine IH.out.mono ?_
    rintro e w' ⟨rfl, hR⟩
    have HR := Lib.hid hR
    clear hR
    go_wp2
    (first | go_end0 | refine bodyPost_ret (results_none rfl _ _ _) rfl ?_)
    exact ⟨rfl, HR.out⟩
theorem c20y (Bf Bl Bn Bs Bd : Nat) (deep : Int) (w : World) (R : World → Prop) (hf : w.cell? ⟨Bf, 0, none⟩ = some (.func (.func 17) #[] #[.pointer (some ⟨Bf, 0, none⟩), .pointer (some ⟨Bl, 0, none⟩), .pointer (some ⟨Bn, 0, none⟩), .pointer (some ⟨Bs, 0, none⟩)]))
    (hd : w.cell? ⟨Bd, 0, none⟩ = some (.int .u8 deep)) (hd0 : 0 ≤ deep) (hd1 : deep ≤ 255)
    (h0 : Calls Try.prog 17 #[.int .i64 0, .pointer (some ⟨Bf, 0, none⟩), .pointer (some ⟨Bl, 0, none⟩), .pointer (some ⟨Bn, 0, none⟩), .pointer (some ⟨Bs, 0, none⟩)] w fun e w' => e = .returned (.tuple #[]) ∧ R w') :
    Calls Try.prog 20 #[.pointer (some ⟨Bf, 0, none⟩), .pointer (some ⟨Bd, 0, none⟩)] w fun e w' => e = .returned (.tuple #[]) ∧ R w' := by
  have C := Lib.hid (c17y Bf Bl Bn Bs w R hf h0 20 (deep % 20) (by omega) (by omega) (by omega))
  clear h0
  go_enter Try.func20, Try.ntmps20
  go_wp2_with fail
  refine C.out.mono ?_
  rintro e w' ⟨rfl, hR⟩
  have HR := Lib.hid hR
  clear hR
  go_wp2
  (first | go_end0 | refine bodyPost_ret (results_none rfl _ _ _) rfl ?_)
  exact ⟨rfl, HR.out⟩

theorem c17n (Bf Bl Bn Bs : Nat) (w : World) (R : World → Prop) (hf : w.cell? ⟨Bf, 0, none⟩ = some (.func (.func 17) #[] #[.pointer (some ⟨Bf, 0, none⟩), .pointer (some ⟨Bl, 0, none⟩), .pointer (some ⟨Bn, 0, none⟩), .pointer (some ⟨Bs, 0, none⟩)]))
    (h0 : Calls Try.prog 17 #[.int .i64 0, .pointer (some ⟨Bf, 0, none⟩), .pointer (some ⟨Bl, 0, none⟩), .pointer (some ⟨Bn, 0, none⟩), .pointer (some ⟨Bs, 0, none⟩)] w fun e w' => (∃ u v, e = .panicked [{ v := .iface u v, recovered := false }]) ∧ R w') (k : Nat) :
    ∀ n : Int, n ≤ k → 0 ≤ n → n ≤ 100 → Calls Try.prog 17 #[.int .i64 n, .pointer (some ⟨Bf, 0, none⟩), .pointer (some ⟨Bl, 0, none⟩), .pointer (some ⟨Bn, 0, none⟩), .pointer (some ⟨Bs, 0, none⟩)] w fun e w' => (∃ u v, e = .panicked [{ v := .iface u v, recovered := false }]) ∧ R w' := by
  induction k with
  | zero =>
    intro n h1 h2 _
    obtain rfl : n = 0 := by omega
    exact h0
  | succ k ih =>
    intro n h1 h2 h3
    by_cases hn : n = 0
    · subst hn; exact h0
    have hp : 0 < n := by omega
    have IH := Lib.hid (ih (n - 1) (by omega) (by omega) (by omega))
    clear h0 ih h1 hn
    go_enter Try.func17, Try.ntmps17
    go_wp2_with fail
    refine IH.out.mono ?_
    rintro e w' ⟨⟨u, v, rfl⟩, hR⟩
    have HR := Lib.hid hR
    clear hR
    skip
    exact ⟨rfl, ⟨_, _, rfl⟩, HR.out⟩
theorem c20n (Bf Bl Bn Bs Bd : Nat) (deep : Int) (w : World) (R : World → Prop) (hf : w.cell? ⟨Bf, 0, none⟩ = some (.func (.func 17) #[] #[.pointer (some ⟨Bf, 0, none⟩), .pointer (some ⟨Bl, 0, none⟩), .pointer (some ⟨Bn, 0, none⟩), .pointer (some ⟨Bs, 0, none⟩)]))
    (hd : w.cell? ⟨Bd, 0, none⟩ = some (.int .u8 deep)) (hd0 : 0 ≤ deep) (hd1 : deep ≤ 255)
    (h0 : Calls Try.prog 17 #[.int .i64 0, .pointer (some ⟨Bf, 0, none⟩), .pointer (some ⟨Bl, 0, none⟩), .pointer (some ⟨Bn, 0, none⟩), .pointer (some ⟨Bs, 0, none⟩)] w fun e w' => (∃ u v, e = .panicked [{ v := .iface u v, recovered := false }]) ∧ R w') :
    Calls Try.prog 20 #[.pointer (some ⟨Bf, 0, none⟩), .pointer (some ⟨Bd, 0, none⟩)] w fun e w' => (∃ u v, e = .panicked [{ v := .iface u v, recovered := false }]) ∧ R w' := by
  have C := Lib.hid (c17n Bf Bl Bn Bs w R hf h0 20 (deep % 20) (by omega) (by omega) (by omega))
  clear h0
  go_enter Try.func20, Try.ntmps20
  go_wp2_with fail
  refine C.out.mono ?_
  rintro e w' ⟨⟨u, v, rfl⟩, hR⟩
  have HR := Lib.hid hR
  clear hR
  skip
  exact ⟨rfl, ⟨_, _, rfl⟩, HR.out⟩

theorem c21 (w : World) : Calls Try.prog 21 #[] w fun e w' => (∃ u v, e = .panicked [{ v := .iface u v, recovered := false }]) ∧ w = w' := by
  go_enter Try.func21, Try.ntmps21
  go_wp2
  exact ⟨rfl, ⟨_, _, rfl⟩, rfl⟩
set_option maxHeartbeats 1000000 in
theorem c17z0 (w0 : World) (Bf Bl Bn Bs cap : Nat) (a : Option Addr) (w : World) (hM : Mem w0 Bl Bn Bs (.slice a 0 cap) 0 0 w) :
    Calls Try.prog 17 #[.int .i64 0, .pointer (some ⟨Bf, 0, none⟩), .pointer (some ⟨Bl, 0, none⟩), .pointer (some ⟨Bn, 0, none⟩), .pointer (some ⟨Bs, 0, none⟩)] w fun e w' =>
      e = .returned (.tuple #[]) ∧ Mem w0 Bl Bn Bs (.slice a 0 cap) 0 0 w' := by
  have cl := cell_of_one hM.l
  have HM := Lib.hid hM
  clear hM
  go_enter Try.func17, Try.ntmps17
  go_wp2
  refine wp_loop_rounds 1 ?_
  rw [rounds_succ]
  go_wp2
  go_end0
  exact ⟨rfl, HM.out⟩
end Go.Proofs.Ytbolcpglkjjheaa
