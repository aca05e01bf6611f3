/-
  SHA-256 over whole numbers from zero on, in a form that is quickly reckoned: words, rounds, chunks.
-/
import Derived.Test.YtfneopmgckejdaaDoorHB
namespace Go.Proofs.YtfneopmgckejdaaDoor
open Go.RowKit
theorem u32n (X : Nat) (h : X < 4294967296) : (BitVec.ofInt 32 (X : Int)).toNat = X := by
  rw [BitVec.toNat_ofInt]
  omega
theorem wrapN (Z : Nat) (h : Z < 4294967296) : IntKind.u32.wrap (Z : Int) = (Z : Int) := by
  rw [IntKind.wrap_u32]
  omega
theorem qxor (X Y : Nat) (hX : X < 4294967296) (hY : Y < 4294967296) : bits .xor .u32 (X : Int) (Y : Int) = ((Nat.xor X Y : Nat) : Int) := by
  show IntKind.u32.wrap ((BitVec.ofInt 32 (X : Int) ^^^ BitVec.ofInt 32 (Y : Int)).toNat : Int) = _
  rw [BitVec.toNat_xor, u32n X hX, u32n Y hY]
  exact wrapN _ (Nat.xor_lt_two_pow (n := 32) hX hY)
theorem qand (X Y : Nat) (hX : X < 4294967296) (hY : Y < 4294967296) : bits .and .u32 (X : Int) (Y : Int) = ((Nat.land X Y : Nat) : Int) := by
  show IntKind.u32.wrap ((BitVec.ofInt 32 (X : Int) &&& BitVec.ofInt 32 (Y : Int)).toNat : Int) = _
  rw [BitVec.toNat_and, u32n X hX, u32n Y hY]
  exact wrapN _ (Nat.and_lt_two_pow (n := 32) X hY)
theorem qor (X Y : Nat) (hX : X < 4294967296) (hY : Y < 4294967296) : bits .or .u32 (X : Int) (Y : Int) = ((X ||| Y : Nat) : Int) := by
  show IntKind.u32.wrap ((BitVec.ofInt 32 (X : Int) ||| BitVec.ofInt 32 (Y : Int)).toNat : Int) = _
  rw [BitVec.toNat_or, u32n X hX, u32n Y hY]
  exact wrapN _ (Nat.or_lt_two_pow (n := 32) hX hY)
/- a word twice, side by side; its low half -/
def dbl (x : Nat) : Nat := Nat.mul x (nat_lit 4294967297)
def md (x : Nat) : Nat := Nat.mod x (nat_lit 4294967296)
theorem md_lt (x : Nat) : md x < 4294967296 := Nat.mod_lt _ (by decide)
theorem md_eq (x : Nat) : md x = x % 2 ^ 32 := rfl
theorem md_xor (x y : Nat) : md (Nat.xor x y) = Nat.xor (md x) (md y) := Nat.xor_mod_two_pow (a := x) (b := y) (n := 32)
theorem rot_nat (X n : Nat) (hn : n ≤ 32) (hX : X < 2 ^ 32) : (X / 2 ^ n) ||| (X * 2 ^ (32 - n) % 2 ^ 32) = md (Nat.shiftRight (dbl X) n) := by
  have hps : 2 ^ n * 2 ^ (32 - n) = 2 ^ 32 := by rw [← Nat.pow_add]; congr 1; omega
  have e1 : Nat.shiftRight (dbl X) n = X * 4294967297 / 2 ^ n := Nat.shiftRight_eq_div_pow (X * 4294967297) n
  rw [md_eq, e1, show (4294967297 : Nat) = 2 ^ n * 2 ^ (32 - n) + 1 by rw [hps], ← hps]
  have hp : 0 < 2 ^ n := Nat.pow_pos (by decide)
  have hs : 0 < 2 ^ (32 - n) := Nat.pow_pos (by decide)
  generalize hP : 2 ^ n = p at *
  have hS : ∀ a b, b < 2 ^ (32 - n) → 2 ^ (32 - n) * a + b = 2 ^ (32 - n) * a ||| b := fun a b h => Nat.two_pow_add_eq_or_of_lt h a
  generalize 2 ^ (32 - n) = s at *
  have hq : X / p < s := Nat.div_lt_of_lt_mul (by rw [hps]; exact hX)
  have hm : X * s % (p * s) = X % p * s := Nat.mul_mod_mul_right _ _ _
  have hX2 : p * (X / p) + X % p = X := Nat.div_add_mod X p
  have hr : X % p < p := Nat.mod_lt _ hp
  rw [hm, Nat.mul_comm (X % p) s, Nat.or_comm, ← hS _ _ hq]
  have hd : X * (p * s + 1) / p = X * s + X / p := by
    rw [show X * (p * s + 1) = p * (X * s) + X by rw [Nat.mul_add, Nat.mul_one, ← Nat.mul_assoc, Nat.mul_comm X p, Nat.mul_assoc], Nat.mul_add_div hp]
  rw [hd]
  generalize X / p = q at *
  generalize X % p = r at *
  have e3 : X * s + q = (s * r + q) + (p * s) * q := by
    rw [← hX2, Nat.add_mul, Nat.mul_comm r s, Nat.mul_assoc, Nat.mul_comm q s, ← Nat.mul_assoc]
    omega
  rw [e3, Nat.add_mul_mod_self_left]
  have e4 : s * r + q < p * s := by
    have h1 : s * (r + 1) ≤ s * p := Nat.mul_le_mul_left s hr
    rw [Nat.mul_add, Nat.mul_one, Nat.mul_comm s p] at h1
    omega
  exact (Nat.mod_eq_of_lt e4).symm
theorem qrr (X n : Nat) (hn : n ≤ 32) (hX : X < 4294967296) : rr (X : Int) n = ((md (Nat.shiftRight (dbl X) n) : Nat) : Int) := by
  have h1 : (X : Int) / 2 ^ n = ((X / 2 ^ n : Nat) : Int) := by simp
  have h2 : (X : Int) * 2 ^ (32 - n) % 4294967296 = ((X * 2 ^ (32 - n) % 2 ^ 32 : Nat) : Int) := by simp
  unfold rr
  rw [h1, h2, qor _ _ (Nat.lt_of_le_of_lt (Nat.div_le_self _ _) hX) (Nat.mod_lt _ (by decide)), rot_nat X n hn hX]
def qe1 (e : Nat) : Nat := md (Nat.xor (Nat.xor (Nat.shiftRight (dbl e) (nat_lit 6)) (Nat.shiftRight (dbl e) (nat_lit 11))) (Nat.shiftRight (dbl e) (nat_lit 25)))
def qe0 (e : Nat) : Nat := md (Nat.xor (Nat.xor (Nat.shiftRight (dbl e) (nat_lit 2)) (Nat.shiftRight (dbl e) (nat_lit 13))) (Nat.shiftRight (dbl e) (nat_lit 22)))
def qo0 (x : Nat) : Nat := Nat.xor (md (Nat.xor (Nat.shiftRight (dbl x) (nat_lit 7)) (Nat.shiftRight (dbl x) (nat_lit 18)))) (Nat.shiftRight x (nat_lit 3))
def qo1 (x : Nat) : Nat := Nat.xor (md (Nat.xor (Nat.shiftRight (dbl x) (nat_lit 17)) (Nat.shiftRight (dbl x) (nat_lit 19)))) (Nat.shiftRight x (nat_lit 10))
def qch (e f g : Nat) : Nat := Nat.xor (Nat.land e f) (Nat.land (Nat.xor (nat_lit 4294967295) e) g)
def qmj (a b c : Nat) : Nat := Nat.xor (Nat.xor (Nat.land a b) (Nat.land a c)) (Nat.land b c)
def qT1 (e f g h k w : Nat) : Nat := md (Nat.add (Nat.add (Nat.add (Nat.add h (qe1 e)) (qch e f g)) k) w)
def qT2 (a b c : Nat) : Nat := md (Nat.add (qe0 a) (qmj a b c))
theorem xor_lt {X Y : Nat} (hX : X < 4294967296) (hY : Y < 4294967296) : Nat.xor X Y < 4294967296 := Nat.xor_lt_two_pow (n := 32) hX hY
theorem land_lt {X Y : Nat} (hY : Y < 4294967296) : Nat.land X Y < 4294967296 := Nat.and_lt_two_pow (n := 32) X hY
theorem rt_q (X n : Nat) (hn : n ≤ 32) (hX : X < 4294967296) : rt (X : Int) (n : Int) = ((md (Nat.shiftRight (dbl X) n) : Nat) : Int) := qrr X n hn hX
theorem bs1_q (e : Nat) (h : e < 4294967296) : bs1 (e : Int) = ((qe1 e : Nat) : Int) := by
  have h1 := rt_q e 6 (by decide) h
  have h2 := rt_q e 11 (by decide) h
  have h3 := rt_q e 25 (by decide) h
  unfold bs1 qe1
  rw [show (6 : Int) = ((6 : Nat) : Int) from rfl, show (11 : Int) = ((11 : Nat) : Int) from rfl, show (25 : Int) = ((25 : Nat) : Int) from rfl, h1, h2, h3, qxor _ _ (md_lt _) (md_lt _), qxor _ _ (xor_lt (md_lt _) (md_lt _)) (md_lt _), md_xor, md_xor]
theorem bs0_q (e : Nat) (h : e < 4294967296) : bs0 (e : Int) = ((qe0 e : Nat) : Int) := by
  have h1 := rt_q e 2 (by decide) h
  have h2 := rt_q e 13 (by decide) h
  have h3 := rt_q e 22 (by decide) h
  unfold bs0 qe0
  rw [show (2 : Int) = ((2 : Nat) : Int) from rfl, show (13 : Int) = ((13 : Nat) : Int) from rfl, show (22 : Int) = ((22 : Nat) : Int) from rfl, h1, h2, h3, qxor _ _ (md_lt _) (md_lt _), qxor _ _ (xor_lt (md_lt _) (md_lt _)) (md_lt _), md_xor, md_xor]
theorem sg0_q (x : Nat) (h : x < 4294967296) : sg0 (x : Int) = ((qo0 x : Nat) : Int) := by
  have h1 := rt_q x 7 (by decide) h
  have h2 := rt_q x 18 (by decide) h
  have h3 : (x : Int) / 8 = ((Nat.shiftRight x 3 : Nat) : Int) := by
    rw [show Nat.shiftRight x 3 = x / 2 ^ 3 from Nat.shiftRight_eq_div_pow x 3]
    simp
  have h4 : Nat.shiftRight x 3 < 4294967296 := by
    rw [show Nat.shiftRight x 3 = x / 2 ^ 3 from Nat.shiftRight_eq_div_pow x 3]
    omega
  unfold sg0 qo0
  rw [show (7 : Int) = ((7 : Nat) : Int) from rfl, show (18 : Int) = ((18 : Nat) : Int) from rfl, h1, h2, h3, qxor _ _ (md_lt _) (md_lt _), qxor _ _ (xor_lt (md_lt _) (md_lt _)) h4, md_xor]
theorem sg1_q (x : Nat) (h : x < 4294967296) : sg1 (x : Int) = ((qo1 x : Nat) : Int) := by
  have h1 := rt_q x 17 (by decide) h
  have h2 := rt_q x 19 (by decide) h
  have h3 : (x : Int) / 1024 = ((Nat.shiftRight x 10 : Nat) : Int) := by
    rw [show Nat.shiftRight x 10 = x / 2 ^ 10 from Nat.shiftRight_eq_div_pow x 10]
    simp
  have h4 : Nat.shiftRight x 10 < 4294967296 := by
    rw [show Nat.shiftRight x 10 = x / 2 ^ 10 from Nat.shiftRight_eq_div_pow x 10]
    omega
  unfold sg1 qo1
  rw [show (17 : Int) = ((17 : Nat) : Int) from rfl, show (19 : Int) = ((19 : Nat) : Int) from rfl, h1, h2, h3, qxor _ _ (md_lt _) (md_lt _), qxor _ _ (xor_lt (md_lt _) (md_lt _)) h4, md_xor]
theorem qo0_lt (x : Nat) (h : x < 4294967296) : qo0 x < 4294967296 := xor_lt (md_lt _) (by
    rw [show Nat.shiftRight x 3 = x / 2 ^ 3 from Nat.shiftRight_eq_div_pow x 3]
    omega)
theorem ch_q (e f g : Nat) (he : e < 4294967296) (hf : f < 4294967296) (hg : g < 4294967296) : ch (e : Int) f g = ((qch e f g : Nat) : Int) := by
  unfold ch qch
  rw [show IntKind.u32.max = ((4294967295 : Nat) : Int) from rfl, qand _ _ he hf, qxor _ _ (by decide) he, qand _ _ (xor_lt (by decide) he) hg, qxor _ _ (land_lt hf) (land_lt hg)]
theorem maj_q (a b c : Nat) (ha : a < 4294967296) (hb : b < 4294967296) (hc : c < 4294967296) : maj (a : Int) b c = ((qmj a b c : Nat) : Int) := by
  unfold maj qmj
  rw [qand _ _ ha hb, qand _ _ ha hc, qand _ _ hb hc, qxor _ _ (land_lt hb) (land_lt hc), qxor _ _ (xor_lt (land_lt hb) (land_lt hc)) (land_lt hc)]
theorem md_cast (x : Nat) : ((md x : Nat) : Int) = (x : Int) % 4294967296 := by
  rw [md_eq]
  simp
end Go.Proofs.YtfneopmgckejdaaDoor
