/-
  The walk of MoneySums at any row.
-/
import Derived.Test.YtbolcpglkjjheaaW8
import Derived.Test.YtbolcpglkjjheaaW9
import Derived.Test.YtbolcpglkjjheaaW10
import Derived.Test.YtbolcpglkjjheaaW11
namespace Go.Proofs.Ytbolcpglkjjheaa
open Go.RowKit

theorem walkSumsA (a : Option Addr) (len cap : Nat) (cut : Int) (w : World) (h : 100 < len) (hm : len ≤ 9223372036854775807) :
    Calls Try.prog 4 #[.slice a len cap, .int .u8 cut] w fun e w' => e = .returned (.bool true) ∧ Below w.heap.size w w' := by
  go_enter Try.func4, Try.ntmps4
  go_wp2_with (go_at_call 8; refine (c8 _).mono ?_; rintro e w' ⟨rfl, rfl⟩)
  go_ret
  exact ⟨rfl, Below.refl _ _⟩

/-- what a slice of numbers that comes in may be -/
def Came (w : World) (a : Option Addr) (len cap : Nat) (xs : List Int) : Prop :=
  (a = none ∧ len = 0 ∧ cap = 0) ∨ (∃ x, a = some x ∧ len = 0 ∧ cap = 0) ∨ ∃ b off, a = some ⟨b, off, none⟩ ∧ 0 < cap ∧ ∀ i, i < len → w.cell? ⟨b, off + i, none⟩ = some (.int .i64 (xs.getD i 0))

theorem walkSums (a : Option Addr) (len cap : Nat) (cut : Int) (xs : List Int) (w : World) (hlen : xs.length = len) (hcap : len ≤ cap) (hcm : cap ≤ 9223372036854775807)
    (hr : Came w a len cap xs) (ht0 : 0 ≤ cut) (ht : cut < 256) :
    Calls Try.prog 4 #[.slice a len cap, .int .u8 cut] w fun e w' => e = .returned (.bool true) ∧ Below w.heap.size w w' := by
  by_cases h5 : 100 < len
  · exact walkSumsA a len cap cut w h5 (by omega)
  rcases hr with ⟨rfl, rfl, rfl⟩ | ⟨x, rfl, rfl, rfl⟩ | ⟨b, off, rfl, h0, hc⟩
  · obtain rfl := List.eq_nil_of_length_eq_zero hlen
    exact walkSumsBy cut [] w rfl (.inl rfl) ht0 ht (by simp) rfl
  · obtain rfl := List.eq_nil_of_length_eq_zero hlen
    exact walkSumsEy x cut [] w rfl (.inl rfl) ht0 ht (by simp) rfl
  · have hr : Row w (some ⟨b, off, none⟩) xs := .inr ⟨b, off, rfl, by rw [hlen]; exact hc⟩
    have e1 := Int.emod_nonneg cut (show ((len : Nat) : Int) + 1 ≠ 0 by omega)
    have e2 := Int.emod_lt_of_pos cut (show (0 : Int) < ((len : Nat) : Int) + 1 by omega)
    obtain ⟨k, hk⟩ : ∃ k : Nat, cut % (((len : Nat) : Int) + 1) = (k : Nat) := ⟨(cut % (((len : Nat) : Int) + 1)).toNat, by omega⟩
    by_cases hkc : k < cap
    · cases h : okB xs with
      | true => exact walkSumsDy b off len cap k cut xs w hlen (by omega) hcap hcm hkc hr ht0 ht hk h
      | false => exact walkSumsDn b off len cap k cut xs w hlen (by omega) hcap hcm hkc hr ht0 ht hk h
    · obtain rfl : k = len := by omega
      obtain rfl : cap = k := by omega
      cases h : okB xs with
      | true => exact walkSumsFy b off cap cut xs w hlen h0 (by omega) hr ht0 ht hk h
      | false => exact walkSumsFn b off cap cut xs w hlen h0 (by omega) hr ht0 ht hk h
end Go.Proofs.Ytbolcpglkjjheaa
