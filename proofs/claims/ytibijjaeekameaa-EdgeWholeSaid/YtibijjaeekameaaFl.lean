/-
  Plain facts on binary floats of 64 bits, as the model reads them: the order of two of them is that of their signed rungs; a small whole number is a float, exactly; what lies beside such a float is not whole.
-/
import Derived.Laws.FloatArith
namespace Go.Proofs.Ytibijjaeekameaa.Fl

def sgn (b : Nat) : Bool := b / 2 ^ 63 % 2 == 1
def rung (b : Nat) : Nat := b % 2 ^ 63
def mag (r : Nat) : Nat := if r < 2 ^ 52 then r else 2 ^ 52 + r % 2 ^ 52
def ex (r : Nat) : Nat := r / 2 ^ 52 - 1
def val (r : Nat) : Nat := mag r * 2 ^ ex r
def infR : Nat := 2047 * 2 ^ 52
def key (b : Nat) : Int := if sgn b then -(rung b : Int) else (rung b : Int)

theorem val_lt {r s : Nat} (h : r < s) : val r < val s := by
  unfold val mag ex
  have hB : (0 : Nat) < 2 ^ 52 := by decide
  generalize (2 : Nat) ^ 52 = B at *
  have dr := Nat.div_add_mod r B
  have ds := Nat.div_add_mod s B
  have mr := Nat.mod_lt r hB
  have ms := Nat.mod_lt s hB
  have le : r / B ≤ s / B := Nat.div_le_div_right (Nat.le_of_lt h)
  by_cases h1 : r < B
  · rw [if_pos h1]
    have e1 : r / B = 0 := Nat.div_eq_of_lt h1
    rw [e1]
    by_cases h2 : s < B
    · rw [if_pos h2, Nat.div_eq_of_lt h2]; simpa using h
    · rw [if_neg h2]
      have : 0 < 2 ^ (s / B - 1) := Nat.two_pow_pos _
      have : B + s % B ≤ (B + s % B) * 2 ^ (s / B - 1) := Nat.le_mul_of_pos_right _ this
      simp only [Nat.zero_sub, Nat.pow_zero, Nat.mul_one]
      omega
  · have h2 : ¬ s < B := by omega
    rw [if_neg h1, if_neg h2]
    have q1 : 1 ≤ r / B := (Nat.one_le_div_iff hB).2 (by omega)
    by_cases e : r / B = s / B
    · rw [e]
      have : r % B < s % B := by
        rw [e] at dr; omega
      exact Nat.mul_lt_mul_of_pos_right (by omega) (Nat.two_pow_pos _)
    · obtain ⟨p, hp⟩ : ∃ p, r / B = p + 1 := ⟨r / B - 1, by omega⟩
      obtain ⟨q, hq⟩ : ∃ q, s / B = q + 1 := ⟨s / B - 1, by omega⟩
      rw [hp, hq]
      simp only [Nat.add_sub_cancel]
      have hpq : p + 1 ≤ q := by omega
      have a1 : (B + r % B) * 2 ^ p < (2 * B) * 2 ^ p := Nat.mul_lt_mul_of_pos_right (by omega) (Nat.two_pow_pos _)
      have a2 : (2 * B) * 2 ^ p = B * 2 ^ (p + 1) := by rw [Nat.pow_succ, Nat.mul_comm 2 B, Nat.mul_assoc, Nat.mul_comm 2 (2 ^ p)]
      have a3 : B * 2 ^ (p + 1) ≤ B * 2 ^ q := Nat.mul_le_mul_left _ (Nat.pow_le_pow_right (by decide) hpq)
      have a4 : B * 2 ^ q ≤ (B + s % B) * 2 ^ q := Nat.mul_le_mul_right _ (by omega)
      omega

theorem val_lt_iff {r s : Nat} : val r < val s ↔ r < s := by
  constructor
  · intro h
    rcases Nat.lt_trichotomy r s with g | g | g
    · exact g
    · subst g; omega
    · have := val_lt g; omega
  · exact val_lt

theorem val_inj {r s : Nat} : val r = val s ↔ r = s := by
  constructor
  · intro h
    rcases Nat.lt_trichotomy r s with g | g | g
    · have := val_lt g; omega
    · exact g
    · have := val_lt g; omega
  · intro h; rw [h]

theorem val_zero : val 0 = 0 := by decide

theorem lp : Ieee.double.leastPlace = -1074 := by decide
theorem sw : Ieee.double.signWeight = 2 ^ 63 := by decide
theorem bn : Ieee.double.binade = 2 ^ 52 := by decide
theorem ir : Ieee.double.infRung = infR := by decide

theorem decode_fin {b : Nat} (h : rung b < infR) : FloatKind.f64.decode b = .number (sgn b) (mag (rung b)) (-1074 + (ex (rung b) : Int)) := by
  show Ieee.Format.read Ieee.double b = _
  unfold Ieee.Format.read
  simp only [lp, sw, bn, ir]
  show (if rung b < 2 ^ 52 then _ else _) = _
  by_cases h1 : rung b < 2 ^ 52
  · rw [if_pos h1]
    have : ex (rung b) = 0 := by unfold ex; rw [Nat.div_eq_of_lt h1]
    rw [this]
    unfold mag
    rw [if_pos h1]
    rfl
  · rw [if_neg h1]
    show (if rung b < infR then _ else _) = _
    rw [if_pos h]
    unfold mag
    rw [if_neg h1]
    rfl

theorem decode_inf {b : Nat} (h : rung b = infR) : FloatKind.f64.decode b = .infinity (sgn b) := by
  show Ieee.Format.read Ieee.double b = _
  unfold Ieee.Format.read
  simp only [sw, bn, ir]
  show (if rung b < 2 ^ 52 then _ else if rung b < infR then _ else if rung b = infR then _ else _) = _
  rw [if_neg (by rw [h]; decide), if_neg (by omega), if_pos h]
  rfl

theorem decode_nan {b : Nat} (h : infR < rung b) : FloatKind.f64.decode b = .nan (sgn b) (rung b - infR) := by
  show Ieee.Format.read Ieee.double b = _
  unfold Ieee.Format.read
  simp only [sw, bn, ir]
  show (if rung b < 2 ^ 52 then _ else if rung b < infR then _ else if rung b = infR then _ else _) = _
  have : (2 : Nat) ^ 52 ≤ infR := by decide
  rw [if_neg (by omega), if_neg (by omega), if_neg (by omega)]
  rfl

theorem cmp_eq {x y x' y' : Int} (h1 : x < y ↔ x' < y') (h2 : x = y ↔ x' = y') : compare x y = compare x' y' := by
  show compareOfLessAndEq x y = compareOfLessAndEq x' y'
  unfold compareOfLessAndEq
  by_cases a : x < y
  · rw [if_pos a, if_pos (h1.1 a)]
  · rw [if_neg a, if_neg (fun g => a (h1.2 g))]
    by_cases c : x = y
    · rw [if_pos c, if_pos (h2.1 c)]
    · rw [if_neg c, if_neg (fun g => c (h2.2 g))]

theorem order_fin {a b : Nat} (ha : rung a < infR) (hb : rung b < infR) : FloatKind.f64.format.order a b = some (compare (key a) (key b)) := by
  show (FloatKind.f64.decode a).order (FloatKind.f64.decode b) = _
  rw [decode_fin ha, decode_fin hb]
  simp only [Ieee.Datum.order, Option.some.injEq]
  generalize hr : rung a = r at *
  generalize hs : rung b = s at *
  obtain ⟨mn, hmn, hd1, hd2⟩ : ∃ mn : Nat, min (-1074 + (ex r : Int)) (-1074 + (ex s : Int)) = -1074 + (mn : Int) ∧ mn ≤ ex r ∧ mn ≤ ex s := by
    refine ⟨min (ex r) (ex s), ?_, by omega, by omega⟩
    omega
  rw [hmn]
  have e1 : (-1074 + (ex r : Int) - (-1074 + (mn : Int))).toNat = ex r - mn := by omega
  have e2 : (-1074 + (ex s : Int) - (-1074 + (mn : Int))).toNat = ex s - mn := by omega
  rw [e1, e2]
  unfold Ieee.signed key
  rw [hr, hs, Nat.shiftLeft_eq, Nat.shiftLeft_eq]
  have v1 : val r = mag r * 2 ^ (ex r - mn) * 2 ^ mn := by
    unfold val; rw [Nat.mul_assoc, ← Nat.pow_add, Nat.sub_add_cancel hd1]
  have v2 : val s = mag s * 2 ^ (ex s - mn) * 2 ^ mn := by
    unfold val; rw [Nat.mul_assoc, ← Nat.pow_add, Nat.sub_add_cancel hd2]
  have hp : 0 < 2 ^ mn := Nat.two_pow_pos _
  have L1 := @val_lt_iff r s
  have L2 := @val_lt_iff s r
  have L3 := @val_lt_iff 0 r
  have L4 := @val_lt_iff 0 s
  rw [val_zero] at L3 L4
  rw [v1, v2] at L1 L2
  rw [v1] at L3
  rw [v2] at L4
  generalize mag r * 2 ^ (ex r - mn) = A at *
  generalize mag s * 2 ^ (ex s - mn) = C at *
  rw [Nat.mul_lt_mul_right hp] at L1 L2
  have z1 : 0 < A * 2 ^ mn ↔ 0 < A := by
    constructor
    · intro h; exact Nat.pos_of_mul_pos_right h
    · intro h; exact Nat.mul_pos h hp
  have z2 : 0 < C * 2 ^ mn ↔ 0 < C := by
    constructor
    · intro h; exact Nat.pos_of_mul_pos_right h
    · intro h; exact Nat.mul_pos h hp
  rw [z1] at L3
  rw [z2] at L4
  clear v1 v2 z1 z2 e1 e2 hmn
  apply cmp_eq
  · cases sgn a <;> cases sgn b <;> simp <;> omega
  · cases sgn a <;> cases sgn b <;> simp <;> omega

theorem cmp_lt {x y : Int} (h : x < y) : compare x y = .lt := by
  show compareOfLessAndEq x y = _
  unfold compareOfLessAndEq
  rw [if_pos h]

theorem cmp_gt {x y : Int} (h : y < x) : compare x y = .gt := by
  show compareOfLessAndEq x y = _
  unfold compareOfLessAndEq
  rw [if_neg (by omega), if_neg (by omega)]

theorem cmp_same (x : Int) : compare x x = .eq := by
  show compareOfLessAndEq x x = _
  unfold compareOfLessAndEq
  rw [if_neg (by omega), if_pos rfl]

theorem infR_pos : 0 < infR := by decide

theorem order_any {a b : Nat} (ha : rung a ≤ infR) (hb : rung b ≤ infR) : FloatKind.f64.format.order a b = some (compare (key a) (key b)) := by
  have hp := infR_pos
  by_cases h1 : rung a < infR
  · by_cases h2 : rung b < infR
    · exact order_fin h1 h2
    · have h2 : rung b = infR := by omega
      show (FloatKind.f64.decode a).order (FloatKind.f64.decode b) = _
      rw [decode_fin h1, decode_inf h2]
      simp only [Ieee.Datum.order, Option.some.injEq]
      have h1 : (rung a : Int) < rung b := by omega
      unfold key
      cases sgn a <;> cases sgn b <;> simp only [Bool.false_eq_true, if_true, if_false] <;> first | rw [cmp_lt (by omega)] | rw [cmp_gt (by omega)]
  · have h1 : rung a = infR := by omega
    by_cases h2 : rung b < infR
    · show (FloatKind.f64.decode a).order (FloatKind.f64.decode b) = _
      rw [decode_inf h1, decode_fin h2]
      simp only [Ieee.Datum.order, Option.some.injEq]
      have h1 : (rung b : Int) < rung a := by omega
      unfold key
      cases sgn a <;> cases sgn b <;> simp only [Bool.false_eq_true, if_true, if_false] <;> first | rw [cmp_lt (by omega)] | rw [cmp_gt (by omega)]
    · have h2 : rung b = infR := by omega
      show (FloatKind.f64.decode a).order (FloatKind.f64.decode b) = _
      rw [decode_inf h1, decode_inf h2]
      simp only [Ieee.Datum.order, Option.some.injEq]
      unfold key
      rw [h1, h2]
      cases sgn a <;> cases sgn b <;> simp only [Bool.false_eq_true, if_true, if_false] <;> first | (rw [cmp_same]; rfl) | (rw [cmp_lt (by omega)]; rfl) | (rw [cmp_gt (by omega)]; rfl)

theorem order_nan1 {a b : Nat} (ha : infR < rung a) : FloatKind.f64.format.order a b = none := by
  show (FloatKind.f64.decode a).order (FloatKind.f64.decode b) = _
  rw [decode_nan ha]
  rfl

theorem order_nan2 {a b : Nat} (hb : infR < rung b) : FloatKind.f64.format.order a b = none := by
  show (FloatKind.f64.decode a).order (FloatKind.f64.decode b) = _
  rw [decode_nan hb]
  cases FloatKind.f64.decode a <;> rfl

/-- what is left of a number without its fraction -/
def twoTo (P : Nat) : Nat := 2 ^ P
def unit : Nat := twoTo 1074
theorem twoTo_eq (P : Nat) : twoTo P = 2 ^ P := rfl
theorem unit_eq (P : Nat) (h : P = 1074) : unit = 2 ^ P := by
  rw [← twoTo_eq P, h]
  unfold unit
  with_reducible rfl
theorem unit_pos : 0 < unit := by
  obtain ⟨P, hP⟩ : ∃ P : Nat, P = 1074 := ⟨_, rfl⟩
  rw [unit_eq P hP]; exact Nat.two_pow_pos _
def wk (b : Nat) : Nat := val (rung b) / unit
def near (n : Nat) : Nat := if n = 0 then 0 else (n.log2 + 1022) * 2 ^ 52 + n * 2 ^ (52 - n.log2)
def tr (b : Nat) : Nat := FloatKind.f64.encode ((FloatKind.f64.decode b).integral .zero)
def fl (b : Nat) : Nat := FloatKind.f64.encode ((FloatKind.f64.decode b).integral .down)
def big : Nat := 4697254411347427328

theorem cut_zero (s : Bool) (n drop : Nat) : Ieee.Toward.zero.cut s n drop = n / 2 ^ drop := by
  unfold Ieee.Toward.cut
  simp only [Bool.toNat_false, Nat.add_zero, Nat.one_shiftLeft]
  by_cases h : drop ≤ n.log2 + 2
  · rw [Nat.min_eq_left h]
  · rw [Nat.min_eq_right (by omega)]
    have h1 : n < 2 ^ (n.log2 + 1) := Nat.lt_log2_self
    have h2 : (2 : Nat) ^ (n.log2 + 1) ≤ 2 ^ (n.log2 + 2) := Nat.pow_le_pow_right (by decide) (by omega)
    have h3 : (2 : Nat) ^ (n.log2 + 2) ≤ 2 ^ drop := Nat.pow_le_pow_right (by decide) (by omega)
    rw [Nat.div_eq_of_lt (by omega), Nat.div_eq_of_lt (by omega)]

theorem cut_down (n drop : Nat) : Ieee.Toward.down.cut false n drop = Ieee.Toward.zero.cut false n drop := by
  unfold Ieee.Toward.cut
  simp

theorem cut_val (r : Nat) (s : Bool) : Ieee.Toward.zero.cut s (mag r <<< (-1074 + (ex r : Int)).toNat) (-(-1074 + (ex r : Int))).toNat = val r / unit := by
  rw [cut_zero, Nat.shiftLeft_eq]
  obtain ⟨P, hP⟩ : ∃ P : Nat, P = 1074 := ⟨_, rfl⟩
  rw [unit_eq P hP]
  unfold val
  by_cases h : P ≤ ex r
  · obtain ⟨d, hd⟩ : ∃ d, ex r = P + d := ⟨ex r - P, by omega⟩
    rw [hd]
    have e1 : (-1074 + ((P + d : Nat) : Int)).toNat = d := by omega
    have e2 : (-(-1074 + ((P + d : Nat) : Int))).toNat = 0 := by omega
    rw [e1, e2, Nat.pow_zero, Nat.div_one, Nat.pow_add, Nat.mul_comm (2 ^ P), ← Nat.mul_assoc, Nat.mul_div_cancel _ (Nat.two_pow_pos _)]
  · obtain ⟨d, hd⟩ : ∃ d, P = ex r + d := ⟨P - ex r, by omega⟩
    have e1 : (-1074 + (ex r : Int)).toNat = 0 := by omega
    have e2 : (-(-1074 + (ex r : Int))).toNat = d := by omega
    rw [e1, e2, Nat.pow_zero, Nat.mul_one]
    have e3 : (2 : Nat) ^ P = 2 ^ d * 2 ^ ex r := by rw [hd, Nat.pow_add, Nat.mul_comm]
    rw [e3, Nat.mul_div_mul_right _ _ (Nat.two_pow_pos _)]

theorem toInt_fin {b : Nat} (h : rung b < infR) (hs : sgn b = false) : (FloatKind.f64.decode b).toInt .zero = some (wk b : Int) := by
  rw [decode_fin h, hs]
  unfold Ieee.Datum.toInt Ieee.Datum.integral
  simp only [cut_val]
  unfold Ieee.signed wk
  simp

theorem fl_tr {b : Nat} (h : rung b < infR) (hs : sgn b = false) : fl b = tr b := by
  unfold fl tr
  rw [decode_fin h, hs]
  unfold Ieee.Datum.integral
  simp only [cut_down]

theorem word_pos (n : Nat) : Ieee.double.word false n = n := rfl

theorem tr_le {b : Nat} (h : rung b < infR) (hs : sgn b = false) : tr b ≤ infR := by
  unfold tr
  rw [decode_fin h, hs]
  unfold Ieee.Datum.integral
  show Ieee.double.nearest _ _ _ ≤ _
  unfold Ieee.Format.nearest
  split
  · rw [word_pos]; omega
  · rw [word_pos, ir]; exact Nat.min_le_right _ _

theorem log_le {n : Nat} (h0 : 0 < n) (h : n < 2 ^ 53) : n.log2 ≤ 52 := by
  have := (Nat.log2_lt (Nat.pos_iff_ne_zero.1 h0)).2 h
  omega

theorem near_pos {n : Nat} (h0 : 0 < n) (h : n < 2 ^ 53) : 2 ^ 52 ≤ n * 2 ^ (52 - n.log2) ∧ n * 2 ^ (52 - n.log2) < 2 ^ 53 := by
  have hl := log_le h0 h
  have h1 : 2 ^ n.log2 ≤ n := Nat.log2_self_le (Nat.pos_iff_ne_zero.1 h0)
  have h2 : n < 2 ^ (n.log2 + 1) := Nat.lt_log2_self
  have p : 0 < 2 ^ (52 - n.log2) := Nat.two_pow_pos _
  have e1 : (2 : Nat) ^ 52 = 2 ^ n.log2 * 2 ^ (52 - n.log2) := by rw [← Nat.pow_add]; congr 1; omega
  have e2 : (2 : Nat) ^ 53 = 2 ^ (n.log2 + 1) * 2 ^ (52 - n.log2) := by rw [← Nat.pow_add]; congr 1; omega
  constructor
  · rw [e1]; exact Nat.mul_le_mul_right _ h1
  · rw [e2]; exact Nat.mul_lt_mul_of_pos_right h2 p

theorem cut_none (n : Nat) : Ieee.Toward.even.cut false n 0 = n := by
  unfold Ieee.Toward.cut
  simp only [Nat.zero_min, Nat.one_shiftLeft, Nat.pow_zero, Nat.div_one, Nat.mod_one]
  simp

theorem nearest_eq {n : Nat} (h : n < 2 ^ 53) : Ieee.double.nearest false n 0 = near n := by
  unfold Ieee.Format.nearest near
  by_cases h0 : n = 0
  · rw [if_pos h0, if_pos h0]; rfl
  · rw [if_neg h0, if_neg h0]
    have hl := log_le (Nat.pos_of_ne_zero h0) h
    have hb := near_pos (Nat.pos_of_ne_zero h0) h
    have fb : (Ieee.double.fractionBits : Int) = 52 := rfl
    simp only [lp, bn, ir, fb]
    have m1 : max (0 + (n.log2 : Int) - 52) (-1074) = (n.log2 : Int) - 52 := by omega
    rw [m1]
    have e1 : (0 - ((n.log2 : Int) - 52)).toNat = 52 - n.log2 := by omega
    have e2 : ((n.log2 : Int) - 52 - 0).toNat = 0 := by omega
    have e3 : ((n.log2 : Int) - 52 - -1074).toNat = n.log2 + 1022 := by omega
    rw [e1, e2, e3, cut_none, Nat.shiftLeft_eq, word_pos, Nat.min_eq_left]
    have : infR = 2047 * 2 ^ 52 := rfl
    have h53 : (2 : Nat) ^ 53 = 2 * 2 ^ 52 := by decide
    rw [h53] at hb
    rw [this]
    generalize (2 : Nat) ^ 52 = B at *
    have : (n.log2 + 1022) * B ≤ (52 + 1022) * B := Nat.mul_le_mul_right _ (by omega)
    omega

theorem floatOf {n : Nat} (h : n < 2 ^ 53) : floatOfInt .f64 (n : Int) = near n := by
  show Ieee.double.nearest (decide ((n : Int) < 0)) (n : Int).natAbs 0 = _
  rw [decide_eq_false (by omega), Int.natAbs_natCast, nearest_eq h]

theorem near_lt {n : Nat} (h : n < 2 ^ 53) : near n < infR := by
  unfold near
  split
  · exact infR_pos
  · rename_i h0
    have hl := log_le (Nat.pos_of_ne_zero h0) h
    have hb := near_pos (Nat.pos_of_ne_zero h0) h
    have : infR = 2047 * 2 ^ 52 := rfl
    have h53 : (2 : Nat) ^ 53 = 2 * 2 ^ 52 := by decide
    rw [h53] at hb
    rw [this]
    generalize (2 : Nat) ^ 52 = B at *
    have : (n.log2 + 1022) * B ≤ (52 + 1022) * B := Nat.mul_le_mul_right _ (by omega)
    omega

theorem infR_lt : infR < 2 ^ 63 := by decide

theorem rung_near {n : Nat} (h : n < 2 ^ 53) : rung (near n) = near n := by
  unfold rung
  have := near_lt h
  have := infR_lt
  exact Nat.mod_eq_of_lt (by omega)

theorem sgn_small {b : Nat} (h : b < 2 ^ 63) : sgn b = false := by
  unfold sgn
  rw [Nat.div_eq_of_lt h]; rfl

theorem rung_small {b : Nat} (h : b < 2 ^ 63) : rung b = b := Nat.mod_eq_of_lt h

theorem key_small {b : Nat} (h : b < 2 ^ 63) : key b = (b : Int) := by
  unfold key; rw [sgn_small h, rung_small h]; rfl

theorem of_sgn {b : Nat} (h : b < 2 ^ 64) (hs : sgn b = false) : b < 2 ^ 63 := by
  unfold sgn at hs
  have e : (2 : Nat) ^ 64 = 2 * 2 ^ 63 := by decide
  rw [e] at h
  generalize (2 : Nat) ^ 63 = B at *
  by_cases g : b < B
  · exact g
  · exfalso
    have : b / B = 1 := by
      apply Nat.div_eq_of_lt_le <;> omega
    rw [this] at hs
    simp at hs

theorem val_near {n : Nat} (h : n < 2 ^ 53) : val (near n) = n * unit := by
  by_cases h0 : n = 0
  · subst h0; rw [Nat.zero_mul]; rfl
  · have hl := log_le (Nat.pos_of_ne_zero h0) h
    have hb := near_pos (Nat.pos_of_ne_zero h0) h
    have h53 : (2 : Nat) ^ 53 = 2 * 2 ^ 52 := by decide
    rw [h53] at hb
    have hq : near n / 2 ^ 52 = n.log2 + 1023 ∧ near n % 2 ^ 52 = n * 2 ^ (52 - n.log2) - 2 ^ 52 := by
      unfold near
      rw [if_neg h0]
      generalize n * 2 ^ (52 - n.log2) = X at *
      generalize n.log2 = l at *
      have hB : (0 : Nat) < 2 ^ 52 := by decide
      generalize (2 : Nat) ^ 52 = B at *
      obtain ⟨y, rfl⟩ : ∃ y, X = B + y := ⟨X - B, by omega⟩
      have e : (l + 1022) * B + (B + y) = y + (l + 1023) * B := by
        rw [show l + 1023 = l + 1022 + 1 from rfl, Nat.succ_mul (l + 1022)]; omega
      rw [e, Nat.add_mul_div_right _ _ hB, Nat.add_mul_mod_self_right, Nat.div_eq_of_lt (by omega), Nat.mod_eq_of_lt (by omega)]
      omega
    unfold val mag ex
    rw [hq.1, hq.2]
    have hge : ¬ near n < 2 ^ 52 := by
      intro g
      have := Nat.div_eq_of_lt g
      omega
    rw [if_neg hge]
    have e1 : 2 ^ 52 + (n * 2 ^ (52 - n.log2) - 2 ^ 52) = n * 2 ^ (52 - n.log2) := by omega
    obtain ⟨P, hP⟩ : ∃ P : Nat, P = 1074 := ⟨_, rfl⟩
    rw [unit_eq P hP]
    have e2 : 52 - n.log2 + (n.log2 + 1023 - 1) = P := by omega
    rw [e1, Nat.mul_assoc, ← Nat.pow_add, e2]

theorem wk_near {n : Nat} (h : n < 2 ^ 53) : wk (near n) = n := by
  unfold wk
  rw [rung_near h, val_near h, Nat.mul_div_cancel _ unit_pos]

theorem near_lt_iff {m n : Nat} (hm : m < 2 ^ 53) (hn : n < 2 ^ 53) : near m < near n ↔ m < n := by
  rw [← val_lt_iff, val_near hm, val_near hn, Nat.mul_lt_mul_right unit_pos]

theorem tr_eq {b : Nat} (h : rung b < infR) (hs : sgn b = false) (hw : wk b < 2 ^ 53) : tr b = near (wk b) := by
  unfold tr
  rw [decode_fin h, hs]
  unfold Ieee.Datum.integral
  simp only [cut_val]
  show Ieee.double.nearest false (wk b) 0 = _
  exact nearest_eq hw

theorem big_near : big = near 1048576 := by decide +kernel

/-- between two whole numbers -/
theorem wk_between {b n : Nat} (hb : b < 2 ^ 63) (hn : n + 1 < 2 ^ 53) (h1 : near n ≤ b) (h2 : b < near (n + 1)) : wk b = n := by
  unfold wk
  rw [rung_small hb]
  have a1 : val (near n) ≤ val b := by
    rcases Nat.lt_or_eq_of_le h1 with g | g
    · exact Nat.le_of_lt (val_lt g)
    · rw [g]; omega
  have a2 := val_lt h2
  rw [val_near (by omega)] at a1
  rw [val_near hn] at a2
  generalize val b = v at *
  exact Nat.div_eq_of_lt_le a1 a2

theorem near_gap {n : Nat} (h : n < 2 ^ 50) : near n + 2 ≤ near (n + 1) := by
  by_cases h0 : n = 0
  · subst h0; decide +kernel
  · have hl : n.log2 < 50 := (Nat.log2_lt h0).2 h
    have h1 : 2 ^ n.log2 ≤ n := Nat.log2_self_le h0
    have h2 : n < 2 ^ (n.log2 + 1) := Nat.lt_log2_self
    unfold near
    rw [if_neg h0, if_neg (by omega)]
    by_cases e : n + 1 = 2 ^ (n.log2 + 1)
    · have e2 : (n + 1).log2 = n.log2 + 1 := by rw [e]; exact Nat.log2_two_pow
      rw [e2]
      obtain ⟨d, hd⟩ : ∃ d, 52 - n.log2 = d + 2 := ⟨52 - n.log2 - 2, by omega⟩
      have hd2 : 52 - (n.log2 + 1) = d + 1 := by omega
      rw [hd, hd2]
      have e3 : (n + 1) * 2 ^ (d + 1) = 2 ^ 52 := by
        rw [e, ← Nat.pow_add]; congr 1; omega
      rw [e3]
      have e4 : n * 2 ^ (d + 2) + 2 ^ (d + 2) = 2 * 2 ^ 52 := by
        rw [← Nat.succ_mul, Nat.succ_eq_add_one, ← e3, Nat.pow_succ 2 (d + 1)]
        rw [← Nat.mul_assoc, Nat.mul_comm]
      have e5 : 2 ≤ 2 ^ (d + 2) := by
        have : (2 : Nat) ^ 1 ≤ 2 ^ (d + 2) := Nat.pow_le_pow_right (by decide) (by omega)
        omega
      generalize n.log2 = l at *
      generalize (2 : Nat) ^ 52 = B at *
      generalize n * 2 ^ (d + 2) = Y at *
      generalize (2 : Nat) ^ (d + 2) = Z at *
      have e6 : (l + 1 + 1022) * B = (l + 1022) * B + B := by
        rw [show l + 1 + 1022 = (l + 1022) + 1 from by omega, Nat.succ_mul]
      omega
    · have e2 : (n + 1).log2 = n.log2 := by
        apply (Nat.log2_eq_iff (by omega)).2
        constructor <;> omega
      rw [e2, Nat.succ_mul n]
      have e5 : 2 ≤ 2 ^ (52 - n.log2) := by
        have : (2 : Nat) ^ 1 ≤ 2 ^ (52 - n.log2) := Nat.pow_le_pow_right (by decide) (by omega)
        omega
      omega

/-! ### the tests as the walk spells them -/
theorem ord_eq {a b : Nat} (ha : rung a ≤ infR) (hb : rung b ≤ infR) : (FloatKind.f64.format.order a b == some Ordering.eq) = decide (key a = key b) := by
  rw [order_any ha hb]
  rcases Int.lt_trichotomy (key a) (key b) with h | h | h
  · rw [cmp_lt h, decide_eq_false (by omega)]; rfl
  · rw [h, cmp_same, decide_eq_true rfl]; rfl
  · rw [cmp_gt h, decide_eq_false (by omega)]; rfl
theorem ord_ne {a b : Nat} (ha : rung a ≤ infR) (hb : rung b ≤ infR) : (FloatKind.f64.format.order a b != some Ordering.eq) = !decide (key a = key b) := by
  show (!(FloatKind.f64.format.order a b == some Ordering.eq)) = _
  rw [ord_eq ha hb]
theorem ord_lt {a b : Nat} (ha : rung a ≤ infR) (hb : rung b ≤ infR) : (FloatKind.f64.format.order a b == some Ordering.lt) = decide (key a < key b) := by
  rw [order_any ha hb]
  rcases Int.lt_trichotomy (key a) (key b) with h | h | h
  · rw [cmp_lt h, decide_eq_true h]; rfl
  · rw [h, cmp_same, decide_eq_false (by omega)]; rfl
  · rw [cmp_gt h, decide_eq_false (by omega)]; rfl
theorem ord_gt {a b : Nat} (ha : rung a ≤ infR) (hb : rung b ≤ infR) : (FloatKind.f64.format.order a b == some Ordering.gt) = decide (key b < key a) := by
  rw [order_any ha hb]
  rcases Int.lt_trichotomy (key a) (key b) with h | h | h
  · rw [cmp_lt h, decide_eq_false (by omega)]; rfl
  · rw [h, cmp_same, decide_eq_false (by omega)]; rfl
  · rw [cmp_gt h, decide_eq_true h]; rfl
theorem nan_ne {a : Nat} (ha : infR < rung a) : (FloatKind.f64.format.order a a != some Ordering.eq) = true := by
  rw [order_nan1 ha]; rfl
theorem num_ne {a : Nat} (ha : rung a ≤ infR) : (FloatKind.f64.format.order a a != some Ordering.eq) = false := by
  rw [ord_ne ha ha]; simp

/-- the kind of a float, as a number -/
def kindZ (b : Nat) : Int :=
  if infR < rung b then 0 else if rung b = infR then 1 else if sgn b = true then 2 else if rung b = 0 ∨ b ≠ tr b then 3 else if big < b then 4 else 5

theorem kind_nan {b : Nat} (h : infR < rung b) : kindZ b = 0 := by unfold kindZ; rw [if_pos h]
theorem kind_inf {b : Nat} (h : rung b = infR) : kindZ b = 1 := by unfold kindZ; rw [if_neg (by omega), if_pos h]
theorem kind_neg {b : Nat} (h : rung b < infR) (hs : sgn b = true) : kindZ b = 2 := by unfold kindZ; rw [if_neg (by omega), if_neg (by omega), if_pos hs]
theorem kind_broken {b : Nat} (h : rung b < infR) (hs : sgn b = false) (hb : rung b = 0 ∨ b ≠ tr b) : kindZ b = 3 := by unfold kindZ; rw [if_neg (by omega), if_neg (by omega), hs, if_neg (by decide), if_pos hb]
theorem kind_great {b : Nat} (h : rung b < infR) (hs : sgn b = false) (hb : ¬ (rung b = 0 ∨ b ≠ tr b)) (hg : big < b) : kindZ b = 4 := by unfold kindZ; rw [if_neg (by omega), if_neg (by omega), hs, if_neg (by decide), if_neg hb, if_pos hg]
theorem kind_fine {b : Nat} (h : rung b < infR) (hs : sgn b = false) (hb : ¬ (rung b = 0 ∨ b ≠ tr b)) (hg : ¬ big < b) : kindZ b = 5 := by unfold kindZ; rw [if_neg (by omega), if_neg (by omega), hs, if_neg (by decide), if_neg hb, if_neg hg]

theorem rung_lt (b : Nat) : rung b < 2 ^ 63 := Nat.mod_lt _ (by decide)
theorem sgn_small' (b : Nat) : sgn (rung b) = false := sgn_small (rung_lt b)
theorem rung_rung (b : Nat) : rung (rung b) = rung b := rung_small (rung_lt b)
theorem tr_lt {b : Nat} (h : rung b < infR) (hs : sgn b = false) : tr b < 2 ^ 63 := by
  have := tr_le h hs
  have := infR_lt
  omega

theorem sgn_wrap {b : Nat} (h : b < 2 ^ 64) : decide (((b : Int) + 9223372036854775808) % 18446744073709551616 - 9223372036854775808 < 0) = sgn b := by
  unfold sgn
  have e1 : (2 : Nat) ^ 64 = 18446744073709551616 := by decide
  have e2 : (2 : Nat) ^ 63 = 9223372036854775808 := by decide
  rw [e1] at h
  rw [e2]
  by_cases g : b < 9223372036854775808
  · rw [Nat.div_eq_of_lt g, decide_eq_false (by omega)]; rfl
  · have : b / 9223372036854775808 = 1 := by omega
    rw [this, decide_eq_true (by omega)]; rfl

theorem rung_and (b : Nat) : b &&& (18446744073709551615 - 9223372036854775808) = rung b := by
  unfold rung
  have : (18446744073709551615 - 9223372036854775808 : Nat) = 2 ^ 63 - 1 := by decide
  rw [this, Nat.and_two_pow_sub_one_eq_mod]

theorem kind_of_fine {b : Nat} (h : kindZ b = 5) : rung b < infR ∧ sgn b = false ∧ rung b ≠ 0 ∧ b = tr b ∧ b ≤ big := by
  unfold kindZ at h
  split at h
  · cases h
  split at h
  · cases h
  split at h
  · cases h
  split at h
  · cases h
  split at h
  · cases h
  rename_i a1 a2 a3 a4 a5
  exact ⟨by omega, by simpa using a3, fun g => a4 (.inl g), Classical.byContradiction fun g => a4 (.inr g), by omega⟩

theorem fine_small {b : Nat} (h : kindZ b = 5) : b < 2 ^ 63 := by
  have := (kind_of_fine h).2.2.2.2
  have e : big < 2 ^ 63 := by decide
  omega

theorem wk_le {b : Nat} (h : b ≤ big) : wk b ≤ 1048576 := by
  unfold wk
  have e : big < 2 ^ 63 := by decide
  rw [rung_small (by omega)]
  have a : val b ≤ val big := by
    rcases Nat.lt_or_eq_of_le h with g | g
    · exact Nat.le_of_lt (val_lt g)
    · rw [g]; omega
  rw [big_near, val_near (by decide)] at a
  calc val b / unit ≤ (1048576 * unit) / unit := Nat.div_le_div_right a
    _ = 1048576 := Nat.mul_div_cancel _ unit_pos

theorem fine_conv {b : Nat} (h : kindZ b = 5) : floatToIntVal .f64 b .i64 = some (wk b : Int) := by
  obtain ⟨h1, h2, _, _, h5⟩ := kind_of_fine h
  have := wk_le h5
  unfold floatToIntVal
  rw [toInt_fin h1 h2]
  simp only [IntKind.min, IntKind.max, IntKind.signed, IntKind.bits, if_true]
  rw [if_pos (by omega)]

/-- a small whole number's float is fine -/
theorem near_fine {n : Nat} (h0 : 0 < n) (h : n ≤ 1048576) : kindZ (near n) = 5 := by
  have hn : n < 2 ^ 53 := by
    have : 1048576 < 2 ^ 53 := by decide
    omega
  have r := rung_near hn
  have l := near_lt hn
  have l63 : near n < 2 ^ 63 := by have := infR_lt; omega
  have s := sgn_small l63
  have w := wk_near hn
  apply kind_fine (by rw [r]; exact l) s
  · intro g
    rcases g with g | g
    · have g1 := (near_lt_iff (m := 0) (by decide) hn).2 h0
      rw [show near 0 = 0 from rfl] at g1
      omega
    · apply g
      rw [tr_eq (by rw [r]; exact l) s (by rw [w]; exact hn), w]
  · intro g
    rw [big_near, near_lt_iff (by decide) hn] at g
    omega

/-- what a float is worth -/
def workZ (b : Nat) : Int := if kindZ b = 5 then (wk b : Int) else 0
def fineB (b : Nat) : Bool := decide (kindZ b = 5)
theorem work_fine {b : Nat} (h : kindZ b = 5) : workZ b = (wk b : Int) ∧ fineB b = true := by
  unfold workZ fineB; rw [if_pos h]; exact ⟨rfl, decide_eq_true h⟩
theorem work_no {b : Nat} (h : kindZ b ≠ 5) : workZ b = 0 ∧ fineB b = false := by
  unfold workZ fineB; rw [if_neg h]; exact ⟨rfl, decide_eq_false h⟩
theorem work_bd (b : Nat) : 0 ≤ workZ b ∧ workZ b ≤ 1048576 := by
  by_cases h : kindZ b = 5
  · rw [(work_fine h).1]
    have := wk_le (kind_of_fine h).2.2.2.2
    omega
  · rw [(work_no h).1]; omega
theorem work_near {n : Nat} (h0 : 0 < n) (h : n ≤ 1048576) : workZ (near n) = n ∧ fineB (near n) = true := by
  have hn : n < 2 ^ 53 := by
    have : 1048576 < 2 ^ 53 := by decide
    omega
  have := work_fine (near_fine h0 h)
  rw [wk_near hn] at this
  exact this

/-! ### one order of all floats -/
/-- NaNs first, all alike; then by number, -0 ahead of 0 -/
def tkey (b : Nat) : Int := if infR < rung b then -9223372036854775809 - 1 else if sgn b then -(rung b : Int) - 1 else (rung b : Int)
def cmpZ (a b : Nat) : Int := if tkey a < tkey b then -1 else if tkey b < tkey a then 1 else 0

theorem tkey_nan {b : Nat} (h : infR < rung b) : tkey b = -9223372036854775810 := by unfold tkey; rw [if_pos h]; rfl
theorem tkey_neg {b : Nat} (h : rung b ≤ infR) (hs : sgn b = true) : tkey b = -(rung b : Int) - 1 ∧ key b = -(rung b : Int) := by
  unfold tkey key; rw [if_neg (by omega), if_pos hs, if_pos hs]; exact ⟨rfl, rfl⟩
theorem tkey_pos {b : Nat} (h : rung b ≤ infR) (hs : sgn b = false) : tkey b = (rung b : Int) ∧ key b = (rung b : Int) := by
  unfold tkey key; rw [if_neg (by omega), hs]; exact ⟨rfl, rfl⟩
theorem tkey_num {b : Nat} (h : rung b ≤ infR) : -9223372036854775809 ≤ tkey b := by
  have := rung_lt b
  have e : (2 : Nat) ^ 63 = 9223372036854775808 := by decide
  cases hs : sgn b with
  | true => rw [(tkey_neg h hs).1]; omega
  | false => rw [(tkey_pos h hs).1]; omega

theorem cmp_less {a b : Nat} (h : tkey a < tkey b) : cmpZ a b = -1 := by unfold cmpZ; rw [if_pos h]
theorem cmp_more {a b : Nat} (h : tkey b < tkey a) : cmpZ a b = 1 := by unfold cmpZ; rw [if_neg (by omega), if_pos h]
theorem cmp_alike {a b : Nat} (h : tkey a = tkey b) : cmpZ a b = 0 := by unfold cmpZ; rw [if_neg (by omega), if_neg (by omega)]
theorem cmp_turn (a b : Nat) : cmpZ a b = -cmpZ b a := by unfold cmpZ; split <;> split <;> (try split) <;> omega
theorem cmp_bd (a b : Nat) : -1 ≤ cmpZ a b ∧ cmpZ a b ≤ 1 := by unfold cmpZ; split <;> (try split) <;> omega
theorem cmp_le (a b : Nat) : cmpZ a b ≤ 0 ↔ tkey a ≤ tkey b := by unfold cmpZ; split <;> (try split) <;> omega
theorem cmp_zero (a b : Nat) : cmpZ a b = 0 ↔ tkey a = tkey b := by unfold cmpZ; split <;> (try split) <;> omega
theorem cmp_trans {a b c : Nat} (h1 : cmpZ a b ≤ 0) (h2 : cmpZ b c ≤ 0) : cmpZ a c ≤ 0 := by rw [cmp_le] at *; omega

/-- of two numbers: what '<' says is what the order says, but for the two noughts -/
theorem key_lt {a b : Nat} (ha : rung a ≤ infR) (hb : rung b ≤ infR) (h : key a < key b) : tkey a < tkey b := by
  cases hs : sgn a <;> cases hu : sgn b
  · have := tkey_pos ha hs; have := tkey_pos hb hu; omega
  · have := tkey_pos ha hs; have := tkey_neg hb hu; omega
  · have := tkey_neg ha hs; have := tkey_pos hb hu; omega
  · have := tkey_neg ha hs; have := tkey_neg hb hu; omega
theorem key_same {a b : Nat} (ha : rung a ≤ infR) (hb : rung b ≤ infR) (h : key a = key b) :
    (sgn a = sgn b → tkey a = tkey b) ∧ (sgn a = true → sgn b = false → tkey a < tkey b) ∧ (sgn a = false → sgn b = true → tkey b < tkey a) := by
  cases hs : sgn a <;> cases hu : sgn b
  · have := tkey_pos ha hs; have := tkey_pos hb hu; refine ⟨?_, ?_, ?_⟩ <;> intros <;> first | omega | contradiction
  · have := tkey_pos ha hs; have := tkey_neg hb hu; refine ⟨?_, ?_, ?_⟩ <;> intros <;> first | omega | contradiction
  · have := tkey_neg ha hs; have := tkey_pos hb hu; refine ⟨?_, ?_, ?_⟩ <;> intros <;> first | omega | contradiction
  · have := tkey_neg ha hs; have := tkey_neg hb hu; refine ⟨?_, ?_, ?_⟩ <;> intros <;> first | omega | contradiction
theorem tkey_eq {a b : Nat} (ha : rung a ≤ infR) (hb : rung b ≤ infR) : tkey a = tkey b ↔ key a = key b ∧ sgn a = sgn b := by
  constructor
  · intro h
    cases hs : sgn a <;> cases hu : sgn b
    · have := tkey_pos ha hs; have := tkey_pos hb hu; exact ⟨by omega, rfl⟩
    · have := tkey_pos ha hs; have := tkey_neg hb hu; omega
    · have := tkey_neg ha hs; have := tkey_pos hb hu; omega
    · have := tkey_neg ha hs; have := tkey_neg hb hu; exact ⟨by omega, rfl⟩
  · intro h
    exact (key_same ha hb h.1).1 h.2

def nanB (b : Nat) : Bool := decide (infR < rung b)
theorem nan_yes {b : Nat} (h : infR < rung b) : nanB b = true := decide_eq_true h
theorem nan_no {b : Nat} (h : rung b ≤ infR) : nanB b = false := decide_eq_false (by omega)
theorem nan_eq (b : Nat) : (FloatKind.f64.format.order b b != some Ordering.eq) = nanB b := by
  by_cases h : infR < rung b
  · rw [nan_ne h, nan_yes h]
  · rw [num_ne (by omega), nan_no (by omega)]
def rankZ (b : Bool) : Int := if b then 1 else 0

theorem near_great {n : Nat} (h0 : 1048576 < n) (hn : n < 2 ^ 53) : kindZ (near n) = 4 := by
  have r := rung_near hn
  have l := near_lt hn
  have l63 : near n < 2 ^ 63 := by have := infR_lt; omega
  have s := sgn_small l63
  have w := wk_near hn
  have g2 := (near_lt_iff (m := 1048576) (by decide) hn).2 h0
  apply kind_great (by rw [r]; exact l) s
  · intro g
    rcases g with g | g
    · omega
    · apply g
      rw [tr_eq (by rw [r]; exact l) s (by rw [w]; exact hn), w]
  · rw [big_near]; exact g2

def inB (n : Int) : Bool := decide (1 ≤ n ∧ n ≤ 1048576)
def floatZ (n : Int) : Nat := if 1 ≤ n ∧ n ≤ 1048576 then near n.toNat else 0
theorem in_yes {n : Int} (h : 1 ≤ n ∧ n ≤ 1048576) : inB n = true ∧ floatZ n = near n.toNat := by
  unfold inB floatZ; rw [if_pos h]; exact ⟨decide_eq_true h, rfl⟩
theorem in_no {n : Int} (h : ¬ (1 ≤ n ∧ n ≤ 1048576)) : inB n = false ∧ floatZ n = 0 := by
  unfold inB floatZ; rw [if_neg h]; exact ⟨decide_eq_false h, rfl⟩
theorem near_lt64 {n : Nat} (h : n < 2 ^ 53) : near n < 2 ^ 64 := by
  have := near_lt h
  have : infR < 2 ^ 64 := by decide
  omega
theorem floatZ_lt (n : Int) : floatZ n < 2 ^ 64 := by
  by_cases h : 1 ≤ n ∧ n ≤ 1048576
  · rw [(in_yes h).2]
    have : (1048576 : Nat) < 2 ^ 53 := by decide
    exact near_lt64 (by omega)
  · rw [(in_no h).2]; decide
theorem kind_zero : kindZ 0 = 3 := kind_broken (by decide) (by decide) (.inl (by decide))
theorem work_float {n : Int} (h : 1 ≤ n ∧ n ≤ 1048576) : workZ (floatZ n) = n ∧ fineB (floatZ n) = true := by
  rw [(in_yes h).2]
  have := work_near (n := n.toNat) (by omega) (by omega)
  rw [this.1, this.2]
  exact ⟨by omega, rfl⟩

end Go.Proofs.Ytibijjaeekameaa.Fl
