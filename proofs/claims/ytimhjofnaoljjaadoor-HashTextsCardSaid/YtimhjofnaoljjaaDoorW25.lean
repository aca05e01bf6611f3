/-
  Digit, ReadHash; the order of texts.
-/
import Derived.Test.YtimhjofnaoljjaaDoorW23
namespace Go.Proofs.YtimhjofnaoljjaaDoor
open Go.RowKit
theorem dv_eq (c : UInt8) : dv c = (if 48 ≤ c.toNat ∧ c.toNat ≤ 57 then (c.toNat : Int) - 48 else if 97 ≤ c.toNat ∧ c.toNat ≤ 102 then (c.toNat : Int) - 87 else -1) := by
  have := (dv_all ⟨c.toNat, c.toNat_lt⟩).2
  rw [UInt8.ofNat_toNat] at this
  exact this
set_option maxHeartbeats 1000000 in
theorem c31 (c : UInt8) (w : World) : Calls Tryd.prog 31 #[.int .u8 (c.toNat : Int)] w fun e w' => e = .returned (.int .i64 (dv c)) ∧ w' = w := by
  rw [dv_eq]
  have hlt : c.toNat < 256 := c.toNat_lt
  generalize c.toNat = n at *
  by_cases h1 : 48 ≤ n ∧ n ≤ 57
  · rw [if_pos h1]
    obtain ⟨a, b⟩ := h1
    obtain ⟨z, hz⟩ : ∃ z, (n : Int) = z := ⟨_, rfl⟩
    rw [hz]
    have z0 : 48 ≤ z := by omega
    have z1 : z ≤ 57 := by omega
    clear a b hlt hz
    go_enter Tryd.func31, Tryd.ntmps31
    go_wp2
    go_ret
    exact ⟨rfl, rfl⟩
  · rw [if_neg h1]
    by_cases h2 : 97 ≤ n ∧ n ≤ 102
    · rw [if_pos h2]
      obtain ⟨a, b⟩ := h2
      obtain ⟨z, hz⟩ : ∃ z, (n : Int) = z := ⟨_, rfl⟩
      rw [hz]
      have z0 : 97 ≤ z := by omega
      have z1 : z ≤ 102 := by omega
      have e : z - 97 + 10 = z - 87 := by omega
      rw [← e]
      clear a b hlt hz h1 e
      go_enter Tryd.func31, Tryd.ntmps31
      go_wp2
      go_ret
      exact ⟨rfl, rfl⟩
    · rw [if_neg h2]
      obtain ⟨z, hz⟩ : ∃ z, (n : Int) = z := ⟨_, rfl⟩
      rw [hz]
      have z0 : 0 ≤ z := by omega
      have z1 : z < 256 := by omega
      by_cases g1 : 48 ≤ z
      · have g2 : ¬ z ≤ 57 := by omega
        by_cases g3 : 97 ≤ z
        · have g4 : ¬ z ≤ 102 := by omega
          clear hz h1 h2 hlt
          go_enter Tryd.func31, Tryd.ntmps31
          go_wp2
          go_ret
          exact ⟨rfl, rfl⟩
        · clear hz h1 h2 hlt
          go_enter Tryd.func31, Tryd.ntmps31
          go_wp2
          go_ret
          exact ⟨rfl, rfl⟩
      · have g3 : ¬ 97 ≤ z := by omega
        clear hz h1 h2 hlt
        go_enter Tryd.func31, Tryd.ntmps31
        go_wp2
        go_ret
        exact ⟨rfl, rfl⟩
/- the order -/
theorem hx_lt : ∀ a b : Fin 16, (decide (hx ((a.val : Nat) : Int) < hx ((b.val : Nat) : Int)) = decide (a.val < b.val)) ∧ ((hx ((a.val : Nat) : Int) == hx ((b.val : Nat) : Int)) = decide (a.val = b.val)) := by decide +kernel
theorem hx_lt' (a b : Int) (a0 : 0 ≤ a) (a1 : a < 16) (b0 : 0 ≤ b) (b1 : b < 16) : (decide (hx a < hx b) = decide (a < b)) ∧ ((hx a == hx b) = decide (a = b)) := by
  obtain ⟨m, rfl⟩ := Int.eq_ofNat_of_zero_le a0
  obtain ⟨n, rfl⟩ := Int.eq_ofNat_of_zero_le b0
  have := hx_lt ⟨m, by omega⟩ ⟨n, by omega⟩
  refine ⟨this.1.trans ?_, this.2.trans ?_⟩
  · simp
  · simp [Int.ofNat_inj]
theorem ofNat_lt (a b : Int) (a0 : 0 ≤ a) (a1 : a < 256) (b0 : 0 ≤ b) (b1 : b < 256) : (UInt8.ofNat a.toNat < UInt8.ofNat b.toNat) ↔ a < b := by
  obtain ⟨m, rfl⟩ := Int.eq_ofNat_of_zero_le a0
  obtain ⟨n, rfl⟩ := Int.eq_ofNat_of_zero_le b0
  rw [UInt8.lt_iff_toNat_lt]
  simp only [Int.toNat_natCast, UInt8.toNat_ofNat']
  omega
theorem hexL_cons (x : Int) (xs : List Int) : hexL (x :: xs) = hx (x / 16) :: hx (bits .and .u8 x 15) :: hexL xs := rfl
theorem lessB_cons (a b : Int) (x y : List Int) (a0 : 0 ≤ a) (a1 : a < 256) (b0 : 0 ≤ b) (b1 : b < 256) : lessB (a :: x) (b :: y) = if a < b then true else if b < a then false else lessB x y := by
  unfold lessB
  simp only [Lib.bytesOf, List.map_cons, Lib.compareBytes, ofNat_lt a b a0 a1 b0 b1, ofNat_lt b a b0 b1 a0 a1]
  by_cases h : a < b
  · simp [h]
  · by_cases h' : b < a
    · simp [h, h']
    · simp only [h, h', if_false]
      exact decide_eq_decide.2 Iff.rfl
theorem less_hex : ∀ (x y : List Int), Byt x → Byt y → x.length = y.length → lessB x y = Op.bytesLess (hexL x) (hexL y)
  | [], [], _, _, _ => by rfl
  | [], _ :: _, _, _, h => by simp at h
  | _ :: _, [], _, _, h => by simp at h
  | a :: x, b :: y, hx1, hy1, h => by
    have ha := hx1 a (by simp)
    have hb := hy1 b (by simp)
    have ih := less_hex x y (fun z hz => hx1 z (by simp [hz])) (fun z hz => hy1 z (by simp [hz])) (by simpa using h)
    rw [lessB_cons a b x y ha.1 ha.2 hb.1 hb.2, hexL_cons, hexL_cons, and15 a ha.1 ha.2, and15 b hb.1 hb.2, ih]
    obtain ⟨p1, p2⟩ := hx_lt' (a / 16) (b / 16) (by omega) (by omega) (by omega) (by omega)
    obtain ⟨q1, q2⟩ := hx_lt' (a % 16) (b % 16) (by omega) (by omega) (by omega) (by omega)
    simp only [Op.bytesLess, p1, p2, q1, q2]
    by_cases h1 : a < b
    · rw [if_pos h1]
      by_cases h2 : a / 16 < b / 16
      · simp [h2]
      · have e : a / 16 = b / 16 := by omega
        have e2 : a % 16 < b % 16 := by omega
        simp [e, e2]
    · rw [if_neg h1]
      by_cases h3 : b < a
      · rw [if_pos h3]
        have h2 : ¬ a / 16 < b / 16 := by omega
        by_cases e : a / 16 = b / 16
        · have e2 : ¬ a % 16 < b % 16 := by omega
          have e3 : ¬ a % 16 = b % 16 := by omega
          simp [e, e2, e3]
        · simp [h2, e]
      · have e : a = b := by omega
        subst e
        simp
/- what is read of a text, and back -/
theorem dv_hx : ∀ a : Fin 16, dv (hx ((a.val : Nat) : Int)) = ((a.val : Nat) : Int) := by decide +kernel
theorem dv_hx' (a : Int) (a0 : 0 ≤ a) (a1 : a < 16) : dv (hx a) = a := by
  obtain ⟨m, rfl⟩ := Int.eq_ofNat_of_zero_le a0
  exact dv_hx ⟨m, by omega⟩
theorem hx_dv : ∀ n : Fin 256, 0 ≤ dv (UInt8.ofNat n.val) → hx (dv (UInt8.ofNat n.val)) = UInt8.ofNat n.val := by decide +kernel
theorem hx_dv' (c : UInt8) (h : 0 ≤ dv c) : hx (dv c) = c := by
  have := hx_dv ⟨c.toNat, c.toNat_lt⟩
  rw [UInt8.ofNat_toNat] at this
  exact this h
end Go.Proofs.YtimhjofnaoljjaaDoor
