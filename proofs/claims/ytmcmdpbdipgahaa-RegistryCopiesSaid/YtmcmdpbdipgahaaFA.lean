/-
  SHA-256 over whole numbers from zero on, in a form that is quickly reckoned: words, rounds, chunks.
-/
import Derived.Test.YtmcmdpbdipgahaaHB
import Derived.Test.YtmcmdpbdipgahaaK2
namespace Go.Proofs.Ytmcmdpbdipgahaa
open Go.RowKit
theorem u32n (X : Nat) (h : X < 4294967296) : (BitVec.ofInt 32 (X : Int)).toNat = X := by
  rw [BitVec.toNat_ofInt]
  omega
theorem wrapN (Z : Nat) (h : Z < 4294967296) : IntKind.u32.wrap (Z : Int) = (Z : Int) := by
  rw [IntKind.wrap_u32]
  omega
theorem qxor (X Y : Nat) (hX : X < 4294967296) (hY : Y < 4294967296) : bits .xor .u32 (X : Int) (Y : Int) = ((Nat.xor X Y : Nat) : Int) := by
  show IntKind.u32.wrap ((BitVec.ofInt 32 (X : Int) ^^^ BitVec.ofInt 32 (Y : Int)).toNat : Int) = _
  rw [BitVec.toNat_xor, u32n X hX, u32n Y hY]
  exact wrapN _ (Nat.xor_lt_two_pow (n := 32) hX hY)
theorem qand (X Y : Nat) (hX : X < 4294967296) (hY : Y < 4294967296) : bits .and .u32 (X : Int) (Y : Int) = ((Nat.land X Y : Nat) : Int) := by
  show IntKind.u32.wrap ((BitVec.ofInt 32 (X : Int) &&& BitVec.ofInt 32 (Y : Int)).toNat : Int) = _
  rw [BitVec.toNat_and, u32n X hX, u32n Y hY]
  exact wrapN _ (Nat.and_lt_two_pow (n := 32) X hY)
theorem qor (X Y : Nat) (hX : X < 4294967296) (hY : Y < 4294967296) : bits .or .u32 (X : Int) (Y : Int) = ((X ||| Y : Nat) : Int) := by
  show IntKind.u32.wrap ((BitVec.ofInt 32 (X : Int) ||| BitVec.ofInt 32 (Y : Int)).toNat : Int) = _
  rw [BitVec.toNat_or, u32n X hX, u32n Y hY]
  exact wrapN _ (Nat.or_lt_two_pow (n := 32) hX hY)
/- a word twice, side by side; its low half -/
def dbl (x : Nat) : Nat := Nat.mul x (nat_lit 4294967297)
def md (x : Nat) : Nat := Nat.mod x (nat_lit 4294967296)
theorem md_lt (x : Nat) : md x < 4294967296 := Nat.mod_lt _ (by decide)
theorem md_eq (x : Nat) : md x = x % 2 ^ 32 := rfl
theorem md_xor (x y : Nat) : md (Nat.xor x y) = Nat.xor (md x) (md y) := Nat.xor_mod_two_pow (a := x) (b := y) (n := 32)
theorem rot_nat (X n : Nat) (hn : n ≤ 32) (hX : X < 2 ^ 32) : (X / 2 ^ n) ||| (X * 2 ^ (32 - n) % 2 ^ 32) = md (Nat.shiftRight (dbl X) n) := by
  have hps : 2 ^ n * 2 ^ (32 - n) = 2 ^ 32 := by rw [← Nat.pow_add]; congr 1; omega
  have e1 : Nat.shiftRight (dbl X) n = X * 4294967297 / 2 ^ n := Nat.shiftRight_eq_div_pow (X * 4294967297) n
  rw [md_eq, e1, show (4294967297 : Nat) = 2 ^ n * 2 ^ (32 - n) + 1 by rw [hps], ← hps]
  have hp : 0 < 2 ^ n := Nat.pow_pos (by decide)
  have hs : 0 < 2 ^ (32 - n) := Nat.pow_pos (by decide)
  generalize hP : 2 ^ n = p at *
  have hS : ∀ a b, b < 2 ^ (32 - n) → 2 ^ (32 - n) * a + b = 2 ^ (32 - n) * a ||| b := fun a b h => Nat.two_pow_add_eq_or_of_lt h a
  generalize 2 ^ (32 - n) = s at *
  have hq : X / p < s := Nat.div_lt_of_lt_mul (by rw [hps]; exact hX)
  have hm : X * s % (p * s) = X % p * s := Nat.mul_mod_mul_right _ _ _
  have hX2 : p * (X / p) + X % p = X := Nat.div_add_mod X p
  have hr : X % p < p := Nat.mod_lt _ hp
  rw [hm, Nat.mul_comm (X % p) s, Nat.or_comm, ← hS _ _ hq]
  have hd : X * (p * s + 1) / p = X * s + X / p := by
    rw [show X * (p * s + 1) = p * (X * s) + X by rw [Nat.mul_add, Nat.mul_one, ← Nat.mul_assoc, Nat.mul_comm X p, Nat.mul_assoc], Nat.mul_add_div hp]
  rw [hd]
  generalize X / p = q at *
  generalize X % p = r at *
  have e3 : X * s + q = (s * r + q) + (p * s) * q := by
    rw [← hX2, Nat.add_mul, Nat.mul_comm r s, Nat.mul_assoc, Nat.mul_comm q s, ← Nat.mul_assoc]
    omega
  rw [e3, Nat.add_mul_mod_self_left]
  have e4 : s * r + q < p * s := by
    have h1 : s * (r + 1) ≤ s * p := Nat.mul_le_mul_left s hr
    rw [Nat.mul_add, Nat.mul_one, Nat.mul_comm s p] at h1
    omega
  exact (Nat.mod_eq_of_lt e4).symm
theorem qrr (X n : Nat) (hn : n ≤ 32) (hX : X < 4294967296) : rr (X : Int) n = ((md (Nat.shiftRight (dbl X) n) : Nat) : Int) := by
  have h1 : (X : Int) / 2 ^ n = ((X / 2 ^ n : Nat) : Int) := by simp
  have h2 : (X : Int) * 2 ^ (32 - n) % 4294967296 = ((X * 2 ^ (32 - n) % 2 ^ 32 : Nat) : Int) := by simp
  unfold rr
  rw [h1, h2, qor _ _ (Nat.lt_of_le_of_lt (Nat.div_le_self _ _) hX) (Nat.mod_lt _ (by decide)), rot_nat X n hn hX]
def qe1 (e : Nat) : Nat := md (Nat.xor (Nat.xor (Nat.shiftRight (dbl e) (nat_lit 6)) (Nat.shiftRight (dbl e) (nat_lit 11))) (Nat.shiftRight (dbl e) (nat_lit 25)))
def qe0 (e : Nat) : Nat := md (Nat.xor (Nat.xor (Nat.shiftRight (dbl e) (nat_lit 2)) (Nat.shiftRight (dbl e) (nat_lit 13))) (Nat.shiftRight (dbl e) (nat_lit 22)))
def qo0 (x : Nat) : Nat := Nat.xor (md (Nat.xor (Nat.shiftRight (dbl x) (nat_lit 7)) (Nat.shiftRight (dbl x) (nat_lit 18)))) (Nat.shiftRight x (nat_lit 3))
def qo1 (x : Nat) : Nat := Nat.xor (md (Nat.xor (Nat.shiftRight (dbl x) (nat_lit 17)) (Nat.shiftRight (dbl x) (nat_lit 19)))) (Nat.shiftRight x (nat_lit 10))
def qch (e f g : Nat) : Nat := Nat.xor (Nat.land e f) (Nat.land (Nat.xor (nat_lit 4294967295) e) g)
def qmj (a b c : Nat) : Nat := Nat.xor (Nat.xor (Nat.land a b) (Nat.land a c)) (Nat.land b c)
def qT1 (e f g h k w : Nat) : Nat := md (Nat.add (Nat.add (Nat.add (Nat.add h (qe1 e)) (qch e f g)) k) w)
def qT2 (a b c : Nat) : Nat := md (Nat.add (qe0 a) (qmj a b c))
theorem xor_lt {X Y : Nat} (hX : X < 4294967296) (hY : Y < 4294967296) : Nat.xor X Y < 4294967296 := Nat.xor_lt_two_pow (n := 32) hX hY
theorem land_lt {X Y : Nat} (hY : Y < 4294967296) : Nat.land X Y < 4294967296 := Nat.and_lt_two_pow (n := 32) X hY
theorem rt_q (X n : Nat) (hn : n ≤ 32) (hX : X < 4294967296) : rt (X : Int) (n : Int) = ((md (Nat.shiftRight (dbl X) n) : Nat) : Int) := qrr X n hn hX
theorem bs1_q (e : Nat) (h : e < 4294967296) : bs1 (e : Int) = ((qe1 e : Nat) : Int) := by
  have h1 := rt_q e 6 (by decide) h
  have h2 := rt_q e 11 (by decide) h
  have h3 := rt_q e 25 (by decide) h
  unfold bs1 qe1
  rw [show (6 : Int) = ((6 : Nat) : Int) from rfl, show (11 : Int) = ((11 : Nat) : Int) from rfl, show (25 : Int) = ((25 : Nat) : Int) from rfl, h1, h2, h3, qxor _ _ (md_lt _) (md_lt _), qxor _ _ (xor_lt (md_lt _) (md_lt _)) (md_lt _), md_xor, md_xor]
theorem bs0_q (e : Nat) (h : e < 4294967296) : bs0 (e : Int) = ((qe0 e : Nat) : Int) := by
  have h1 := rt_q e 2 (by decide) h
  have h2 := rt_q e 13 (by decide) h
  have h3 := rt_q e 22 (by decide) h
  unfold bs0 qe0
  rw [show (2 : Int) = ((2 : Nat) : Int) from rfl, show (13 : Int) = ((13 : Nat) : Int) from rfl, show (22 : Int) = ((22 : Nat) : Int) from rfl, h1, h2, h3, qxor _ _ (md_lt _) (md_lt _), qxor _ _ (xor_lt (md_lt _) (md_lt _)) (md_lt _), md_xor, md_xor]
theorem sg0_q (x : Nat) (h : x < 4294967296) : sg0 (x : Int) = ((qo0 x : Nat) : Int) := by
  have h1 := rt_q x 7 (by decide) h
  have h2 := rt_q x 18 (by decide) h
  have h3 : (x : Int) / 8 = ((Nat.shiftRight x 3 : Nat) : Int) := by
    rw [show Nat.shiftRight x 3 = x / 2 ^ 3 from Nat.shiftRight_eq_div_pow x 3]
    simp
  have h4 : Nat.shiftRight x 3 < 4294967296 := by
    rw [show Nat.shiftRight x 3 = x / 2 ^ 3 from Nat.shiftRight_eq_div_pow x 3]
    omega
  unfold sg0 qo0
  rw [show (7 : Int) = ((7 : Nat) : Int) from rfl, show (18 : Int) = ((18 : Nat) : Int) from rfl, h1, h2, h3, qxor _ _ (md_lt _) (md_lt _), qxor _ _ (xor_lt (md_lt _) (md_lt _)) h4, md_xor]
theorem sg1_q (x : Nat) (h : x < 4294967296) : sg1 (x : Int) = ((qo1 x : Nat) : Int) := by
  have h1 := rt_q x 17 (by decide) h
  have h2 := rt_q x 19 (by decide) h
  have h3 : (x : Int) / 1024 = ((Nat.shiftRight x 10 : Nat) : Int) := by
    rw [show Nat.shiftRight x 10 = x / 2 ^ 10 from Nat.shiftRight_eq_div_pow x 10]
    simp
  have h4 : Nat.shiftRight x 10 < 4294967296 := by
    rw [show Nat.shiftRight x 10 = x / 2 ^ 10 from Nat.shiftRight_eq_div_pow x 10]
    omega
  unfold sg1 qo1
  rw [show (17 : Int) = ((17 : Nat) : Int) from rfl, show (19 : Int) = ((19 : Nat) : Int) from rfl, h1, h2, h3, qxor _ _ (md_lt _) (md_lt _), qxor _ _ (xor_lt (md_lt _) (md_lt _)) h4, md_xor]
theorem qo0_lt (x : Nat) (h : x < 4294967296) : qo0 x < 4294967296 := xor_lt (md_lt _) (by
    rw [show Nat.shiftRight x 3 = x / 2 ^ 3 from Nat.shiftRight_eq_div_pow x 3]
    omega)
theorem ch_q (e f g : Nat) (he : e < 4294967296) (hf : f < 4294967296) (hg : g < 4294967296) : ch (e : Int) f g = ((qch e f g : Nat) : Int) := by
  unfold ch qch
  rw [show IntKind.u32.max = ((4294967295 : Nat) : Int) from rfl, qand _ _ he hf, qxor _ _ (by decide) he, qand _ _ (xor_lt (by decide) he) hg, qxor _ _ (land_lt hf) (land_lt hg)]
theorem maj_q (a b c : Nat) (ha : a < 4294967296) (hb : b < 4294967296) (hc : c < 4294967296) : maj (a : Int) b c = ((qmj a b c : Nat) : Int) := by
  unfold maj qmj
  rw [qand _ _ ha hb, qand _ _ ha hc, qand _ _ hb hc, qxor _ _ (land_lt hb) (land_lt hc), qxor _ _ (xor_lt (land_lt hb) (land_lt hc)) (land_lt hc)]
theorem md_cast (x : Nat) : ((md x : Nat) : Int) = (x : Int) % 4294967296 := by
  rw [md_eq]
  simp
end Go.Proofs.Ytmcmdpbdipgahaa

/-
  SHA-256 in the quick form: rounds, words, chunks, the sum's first eight bytes.
-/
namespace Go.Proofs.Ytmcmdpbdipgahaa
open Go.RowKit
structure N8 where
  a : Nat
  b : Nat
  c : Nat
  d : Nat
  e : Nat
  f : Nat
  g : Nat
  h : Nat
def N8.up (s : N8) : S8 := ⟨s.a, s.b, s.c, s.d, s.e, s.f, s.g, s.h⟩
def N8.ok (s : N8) : Prop := s.a < 4294967296 ∧ s.b < 4294967296 ∧ s.c < 4294967296 ∧ s.d < 4294967296 ∧ s.e < 4294967296 ∧ s.f < 4294967296 ∧ s.g < 4294967296 ∧ s.h < 4294967296
def qrnd : List Nat → List Nat → Nat → Nat → Nat → Nat → Nat → Nat → Nat → Nat → N8
  | k :: ks, w :: ws, a, b, c, d, e, f, g, h => qrnd ks ws (md (Nat.add (qT1 e f g h k w) (qT2 a b c))) a b c (md (Nat.add d (qT1 e f g h k w))) e f g
  | _, _, a, b, c, d, e, f, g, h => ⟨a, b, c, d, e, f, g, h⟩
termination_by structural ks => ks
def qstep (s : N8) (k w : Nat) : N8 := ⟨md (Nat.add (qT1 s.e s.f s.g s.h k w) (qT2 s.a s.b s.c)), s.a, s.b, s.c, md (Nat.add s.d (qT1 s.e s.f s.g s.h k w)), s.e, s.f, s.g⟩
theorem qstep_ok {s : N8} (h : s.ok) (k w : Nat) : (qstep s k w).ok := ⟨md_lt _, h.1, h.2.1, h.2.2.1, md_lt _, h.2.2.2.2.1, h.2.2.2.2.2.1, h.2.2.2.2.2.2.1⟩
theorem T1_q {s : N8} (h : s.ok) (k w : Nat) : t1 s.up k w = ((qT1 s.e s.f s.g s.h k w : Nat) : Int) := by
  obtain ⟨_, _, _, _, he, hf, hg, _⟩ := h
  unfold t1 qT1
  rw [md_cast]
  show ((s.h : Int) + bs1 s.e + ch s.e s.f s.g + k + w) % 4294967296 = _
  rw [bs1_q _ he, ch_q _ _ _ he hf hg]
  rfl
theorem T2_q {s : N8} (h : s.ok) : t2 s.up = ((qT2 s.a s.b s.c : Nat) : Int) := by
  obtain ⟨ha, hb, hc, _⟩ := h
  unfold t2 qT2
  rw [md_cast]
  show (bs0 s.a + maj s.a s.b s.c) % 4294967296 = _
  rw [bs0_q _ ha, maj_q _ _ _ ha hb hc]
  rfl
theorem step_q {s : N8} (h : s.ok) (k w : Nat) : s.up.step k w = (qstep s k w).up := by
  unfold S8.step qstep N8.up
  have h1 := T1_q h k w
  have h2 := T2_q h
  unfold N8.up at h1 h2
  simp only [h1, h2, md_cast]
  rfl
def qkk : List Nat := [1116352408, 1899447441, 3049323471, 3921009573, 961987163, 1508970993, 2453635748, 2870763221, 3624381080, 310598401, 607225278, 1426881987, 1925078388, 2162078206, 2614888103, 3248222580, 3835390401, 4022224774, 264347078, 604807628, 770255983, 1249150122, 1555081692, 1996064986, 2554220882, 2821834349, 2952996808, 3210313671, 3336571891, 3584528711, 113926993, 338241895, 666307205, 773529912, 1294757372, 1396182291, 1695183700, 1986661051, 2177026350, 2456956037, 2730485921, 2820302411, 3259730800, 3345764771, 3516065817, 3600352804, 4094571909, 275423344, 430227734, 506948616, 659060556, 883997877, 958139571, 1322822218, 1537002063, 1747873779, 1955562222, 2024104815, 2227730452, 2361852424, 2428436474, 2756734187, 3204031479, 3329325298]
theorem qkk_eq : kk = qkk.map (fun n : Nat => (n : Int)) := by decide +kernel
theorem qkk_at (t : Nat) (h : t < 64) : kk.getD t 0 = ((qkk.getD t 0 : Nat) : Int) := by
  rw [qkk_eq]
  have hl : qkk.length = 64 := rfl
  simp [List.getD, show t < qkk.length by omega]
theorem run_one (s : S8) (ws : List Int) (j : Nat) : s.run ws (j + 1) = (s.run ws j).step (kk.getD j 0) (ws.getD j 0) := rfl
attribute [local irreducible] kk qkk S8.run qT1 qT2 md

theorem qkk_len : qkk.length = 64 := by decide +kernel
theorem qkk_end : qkk.drop 64 = [] := List.drop_eq_nil_of_le (by rw [qkk_len]; exact Nat.le_refl _)
theorem rnd_q (ws : List Int) (S : S8) : ∀ (n t : Nat) (wn : List Nat) (s : N8), t + n = 64 → wn.length = n → (∀ j, j < n → ws.getD (t + j) 0 = ((wn.getD j 0 : Nat) : Int)) → s.ok → S.run ws t = s.up →
    S.run ws 64 = (qrnd (qkk.drop t) wn s.a s.b s.c s.d s.e s.f s.g s.h).up ∧ (qrnd (qkk.drop t) wn s.a s.b s.c s.d s.e s.f s.g s.h).ok
  | 0, t, wn, s, ht, hl, _, ho, hr => by
    obtain rfl : t = 64 := by omega
    obtain rfl := List.eq_nil_of_length_eq_zero hl
    rw [qkk_end, qrnd]
    · exact ⟨hr, ho⟩
    · intros; contradiction
  | n + 1, t, [], s, _, hl, _, _, _ => by cases hl
  | n + 1, t, w :: wn, s, ht, hl, hw, ho, hr => by
    have hk : t < qkk.length := by rw [qkk_len]; omega
    have e : qkk.drop t = qkk.getD t 0 :: qkk.drop (t + 1) := by
      rw [List.drop_eq_getElem_cons hk]
      simp [List.getD, hk]
    have h1 : S.run ws (t + 1) = (qstep s (qkk.getD t 0) w).up := by
      rw [run_one, hr, qkk_at t (by omega)]
      have := hw 0 (by omega)
      rw [Nat.add_zero] at this
      rw [this]
      exact step_q ho _ _
    rw [e, qrnd]
    have := rnd_q ws S n (t + 1) wn (qstep s (qkk.getD t 0) w) (by omega) (by simpa using hl) (fun j hj => by
      have := hw (j + 1) (by omega)
      rw [show t + 1 + j = t + (j + 1) by omega, this]
      rfl) (qstep_ok ho _ _) h1
    exact this
/- the words -/
def qgen : Nat → Nat → Nat → Nat → Nat → Nat → Nat → Nat → Nat → Nat → Nat → Nat → Nat → Nat → Nat → Nat → Nat → List Nat
  | 0, _, _, _, _, _, _, _, _, _, _, _, _, _, _, _, _ => []
  | n + 1, x0, x1, x2, x3, x4, x5, x6, x7, x8, x9, x10, x11, x12, x13, x14, x15 => x0 :: qgen n x1 x2 x3 x4 x5 x6 x7 x8 x9 x10 x11 x12 x13 x14 x15 (md (Nat.add (Nat.add (Nat.add x0 (qo0 x1)) x9) (qo1 x14)))
termination_by structural n => n
theorem gen_at (W : Nat → Nat) (hW : ∀ i, W (i + 16) = md (Nat.add (Nat.add (Nat.add (W i) (qo0 (W (i + 1)))) (W (i + 9))) (qo1 (W (i + 14))))) :
    ∀ (n t : Nat), qgen n (W t) (W (t + 1)) (W (t + 2)) (W (t + 3)) (W (t + 4)) (W (t + 5)) (W (t + 6)) (W (t + 7)) (W (t + 8)) (W (t + 9)) (W (t + 10)) (W (t + 11)) (W (t + 12)) (W (t + 13)) (W (t + 14)) (W (t + 15)) = (List.range n).map fun j => W (t + j)
  | 0, t => by rw [qgen]; rfl
  | n + 1, t => by
    rw [qgen, ← hW t, List.range_succ_eq_map, List.map_cons, List.map_map]
    have := gen_at W hW n (t + 1)
    simp only [Nat.add_assoc, Nat.reduceAdd] at this
    congr 1
    rw [this]
    apply List.map_congr_left
    intro j _
    show W (t + (1 + j)) = W (t + (j + 1))
    rw [Nat.add_comm 1 j]
theorem w4_q (a b c d : Nat) (ha : a < 256) (hb : b < 256) (hc : c < 256) (hd : d < 256) : w4 (a : Int) b c d = ((((a * 256 + b) * 256 + c) * 256 + d : Nat) : Int) := by
  unfold w4
  rw [wrapN a (by omega), wrapN b (by omega), wrapN c (by omega), wrapN d (by omega)]
  rw [show (a : Int) * 16777216 = ((a * 16777216 : Nat) : Int) by simp, show (b : Int) * 65536 = ((b * 65536 : Nat) : Int) by simp, show (c : Int) * 256 = ((c * 256 : Nat) : Int) by simp]
  rw [wrapN _ (by omega), wrapN _ (by omega), wrapN _ (by omega)]
  have o1 : a * 16777216 ||| b * 65536 = a * 16777216 + b * 65536 := by
    have := Nat.two_pow_add_eq_or_of_lt (i := 24) (b := b * 65536) (by omega) a
    rw [show 2 ^ 24 * a = a * 16777216 by omega] at this
    exact this.symm
  have o2 : (a * 16777216 + b * 65536) ||| c * 256 = a * 16777216 + b * 65536 + c * 256 := by
    have := Nat.two_pow_add_eq_or_of_lt (i := 16) (b := c * 256) (by omega) (a * 256 + b)
    rw [show 2 ^ 16 * (a * 256 + b) = a * 16777216 + b * 65536 by omega] at this
    exact this.symm
  have o3 : (a * 16777216 + b * 65536 + c * 256) ||| d = a * 16777216 + b * 65536 + c * 256 + d := by
    have := Nat.two_pow_add_eq_or_of_lt (i := 8) (b := d) (by omega) ((a * 256 + b) * 256 + c)
    rw [show 2 ^ 8 * ((a * 256 + b) * 256 + c) = a * 16777216 + b * 65536 + c * 256 by omega] at this
    exact this.symm
  rw [qor _ _ (by omega) (by omega), o1, qor _ _ (by omega) (by omega), o2, qor _ _ (by omega) (by omega), o3]
  exact congrArg (fun n : Nat => (n : Int)) (by omega)
end Go.Proofs.Ytmcmdpbdipgahaa

/-
  SHA-256 in the quick form: chunks, the sum's first eight bytes.
-/
namespace Go.Proofs.Ytmcmdpbdipgahaa
open Go.RowKit
def up (l : List Nat) : List Int := l.map fun n : Nat => (n : Int)
def BytN (l : List Nat) : Prop := ∀ x ∈ l, x < 256
theorem up_app (a b : List Nat) : up (a ++ b) = up a ++ up b := List.map_append
theorem up_len (a : List Nat) : (up a).length = a.length := List.length_map _
theorem up_at (l : List Nat) (i : Nat) : (up l).getD i 0 = ((l.getD i 0 : Nat) : Int) := by
  unfold up
  simp only [List.getD_eq_getElem?_getD, List.getElem?_map]
  cases l[i]? <;> rfl
theorem byt_at {l : List Nat} (h : BytN l) (i : Nat) : l.getD i 0 < 256 := by
  rw [List.getD_eq_getElem?_getD]
  cases e : l[i]? with
  | none => decide
  | some x => exact h x (List.mem_of_getElem? e)
theorem sw_succ (bg : List Int) (k : Nat) : sw bg (k + 1) = sw bg k ++ [nxt (sw bg k) (16 + k)] := rfl
theorem sw_stay (bg : List Int) (k i : Nat) (h : i < 16 + k) : ∀ d, (sw bg (k + d)).getD i 0 = (sw bg k).getD i 0
  | 0 => rfl
  | d + 1 => by
    rw [← Nat.add_assoc, sw_succ, getD_pad _ _ _ (by rw [sw_len]; omega)]
    exact sw_stay bg k i h d
theorem sw_next (bg : List Int) (j : Nat) : (sw bg (j + 16)).getD (j + 16) 0 = ((sw bg j).getD j 0 + sg0 ((sw bg (j + 1)).getD (j + 1) 0) + (sw bg (j + 9)).getD (j + 9) 0 + sg1 ((sw bg (j + 14)).getD (j + 14) 0)) % 4294967296 := by
  have e : (sw bg (j + 16)).getD (j + 16) 0 = (sw bg (j + 1)).getD (j + 16) 0 := by
    have := sw_stay bg (j + 1) (j + 16) (by omega) 15
    rw [show j + 1 + 15 = j + 16 by omega] at this
    exact this
  have e2 : (sw bg (j + 1)).getD (j + 16) 0 = nxt (sw bg j) (16 + j) := by
    rw [sw_succ, List.getD_eq_getElem?_getD, List.getElem?_append_right (by rw [sw_len]; omega), sw_len, show j + 16 - (16 + j) = 0 by omega]
    rfl
  rw [e, e2]
  unfold nxt
  rw [show 16 + j - 16 = j by omega, show 16 + j - 15 = j + 1 by omega, show 16 + j - 7 = j + 9 by omega, show 16 + j - 2 = j + 14 by omega]
  rw [sw_stay bg j (j + 1) (by omega) 1, sw_stay bg j (j + 9) (by omega) 9, sw_stay bg j (j + 14) (by omega) 14]
/-- a word -/
def WN (bg : List Int) (i : Nat) : Nat := ((sw bg i).getD i 0).toNat
theorem word_q (bn : List Nat) (hb : BytN bn) (k : Nat) : word (up bn) k = ((((bn.getD (4 * k) 0 * 256 + bn.getD (4 * k + 1) 0) * 256 + bn.getD (4 * k + 2) 0) * 256 + bn.getD (4 * k + 3) 0 : Nat) : Int) := by
  unfold word
  rw [up_at, up_at, up_at, up_at, w4_q _ _ _ _ (byt_at hb _) (byt_at hb _) (byt_at hb _) (byt_at hb _)]
theorem sw_low (bg : List Int) (i : Nat) (h : i < 16) : (sw bg i).getD i 0 = word bg i := by
  have := sw_stay bg 0 i (by omega) i
  rw [Nat.zero_add] at this
  rw [this]
  show (fst bg 16).getD i 0 = _
  unfold fst
  simp [List.getD, h]
theorem wn_low (bn : List Nat) (hb : BytN bn) (i : Nat) (h : i < 16) : (sw (up bn) i).getD i 0 = ((WN (up bn) i : Nat) : Int) ∧ WN (up bn) i < 4294967296 ∧ WN (up bn) i = ((bn.getD (4 * i) 0 * 256 + bn.getD (4 * i + 1) 0) * 256 + bn.getD (4 * i + 2) 0) * 256 + bn.getD (4 * i + 3) 0 := by
  have e := sw_low (up bn) i h
  rw [word_q bn hb] at e
  have b0 := byt_at hb (4 * i)
  have b1 := byt_at hb (4 * i + 1)
  have b2 := byt_at hb (4 * i + 2)
  have b3 := byt_at hb (4 * i + 3)
  unfold WN
  rw [e, Int.toNat_natCast]
  exact ⟨rfl, by omega, rfl⟩
theorem wn_all (bn : List Nat) (hb : BytN bn) : ∀ i, (sw (up bn) i).getD i 0 = ((WN (up bn) i : Nat) : Int) ∧ WN (up bn) i < 4294967296 := fun i => by
  induction i using Nat.strongRecOn with
  | ind i ih =>
    by_cases h : i < 16
    · exact ⟨(wn_low bn hb i h).1, (wn_low bn hb i h).2.1⟩
    · obtain ⟨j, rfl⟩ : ∃ j, i = j + 16 := ⟨i - 16, by omega⟩
      have e := sw_next (up bn) j
      rw [(ih j (by omega)).1, (ih (j + 1) (by omega)).1, (ih (j + 9) (by omega)).1, (ih (j + 14) (by omega)).1, sg0_q _ (ih (j + 1) (by omega)).2, sg1_q _ (ih (j + 14) (by omega)).2] at e
      unfold WN at *
      rw [e]
      omega
theorem wn_next (bn : List Nat) (hb : BytN bn) (j : Nat) : WN (up bn) (j + 16) = md (Nat.add (Nat.add (Nat.add (WN (up bn) j) (qo0 (WN (up bn) (j + 1)))) (WN (up bn) (j + 9))) (qo1 (WN (up bn) (j + 14)))) := by
  have e := sw_next (up bn) j
  rw [(wn_all bn hb j).1, (wn_all bn hb (j + 1)).1, (wn_all bn hb (j + 9)).1, (wn_all bn hb (j + 14)).1, (wn_all bn hb (j + 16)).1, sg0_q _ (wn_all bn hb (j + 1)).2, sg1_q _ (wn_all bn hb (j + 14)).2] at e
  have h := md_cast (Nat.add (Nat.add (Nat.add (WN (up bn) j) (qo0 (WN (up bn) (j + 1)))) (WN (up bn) (j + 9))) (qo1 (WN (up bn) (j + 14))))
  refine Int.ofNat.inj (?_ : ((WN (up bn) (j + 16) : Nat) : Int) = ((md _ : Nat) : Int))
  rw [h, e]
  rfl
theorem sw_48 (bg : List Int) (t : Nat) (h : t < 64) : (sw bg 48).getD t 0 = (sw bg t).getD t 0 := by
  rcases Nat.lt_or_ge t 48 with g | g
  · have := sw_stay bg t t (by omega) (48 - t)
    rw [show t + (48 - t) = 48 by omega] at this
    exact this
  · have := sw_stay bg 48 t (by omega) (t - 48)
    rw [show 48 + (t - 48) = t by omega] at this
    exact this.symm
def qwords : List Nat → List Nat
  | a :: b :: c :: d :: r => (((a * 256 + b) * 256 + c) * 256 + d) :: qwords r
  | _ => []
theorem qwords_at : ∀ (n : Nat) (l : List Nat), l.length = 4 * n → (qwords l).length = n ∧ ∀ k, k < n → (qwords l).getD k 0 = ((l.getD (4 * k) 0 * 256 + l.getD (4 * k + 1) 0) * 256 + l.getD (4 * k + 2) 0) * 256 + l.getD (4 * k + 3) 0
  | 0, l, h => by
    obtain rfl := List.eq_nil_of_length_eq_zero (by omega : l.length = 0)
    exact ⟨rfl, fun k hk => by omega⟩
  | n + 1, a :: b :: c :: d :: r, h => by
    have hr : r.length = 4 * n := by simp only [List.length_cons] at h; omega
    obtain ⟨h1, h2⟩ := qwords_at n r hr
    refine ⟨by rw [qwords, List.length_cons, h1], fun k hk => ?_⟩
    rw [qwords]
    cases k with
    | zero => rfl
    | succ k =>
      have := h2 k (by omega)
      rw [List.getD_cons_succ, this]
      rfl
  | n + 1, [], h => by simp at h
  | n + 1, [_], h => by simp at h; omega
  | n + 1, [_, _], h => by simp at h; omega
  | n + 1, [_, _, _], h => by simp at h; omega
def qadd (s r : N8) : N8 := ⟨md (Nat.add s.a r.a), md (Nat.add s.b r.b), md (Nat.add s.c r.c), md (Nat.add s.d r.d), md (Nat.add s.e r.e), md (Nat.add s.f r.f), md (Nat.add s.g r.g), md (Nat.add s.h r.h)⟩
theorem qadd_ok (s r : N8) : (qadd s r).ok := ⟨md_lt _, md_lt _, md_lt _, md_lt _, md_lt _, md_lt _, md_lt _, md_lt _⟩
theorem add_q (s r : N8) : s.up.add r.up = (qadd s r).up := by
  unfold S8.add qadd N8.up
  simp only [md_cast]
  rfl
def qcomp (s : N8) : List Nat → N8
  | [x0, x1, x2, x3, x4, x5, x6, x7, x8, x9, x10, x11, x12, x13, x14, x15] => qadd s (qrnd qkk (qgen 64 x0 x1 x2 x3 x4 x5 x6 x7 x8 x9 x10 x11 x12 x13 x14 x15) s.a s.b s.c s.d s.e s.f s.g s.h)
  | _ => s
theorem sixteen (l : List Nat) (h : l.length = 16) : l = [l.getD 0 0, l.getD 1 0, l.getD 2 0, l.getD 3 0, l.getD 4 0, l.getD 5 0, l.getD 6 0, l.getD 7 0, l.getD 8 0, l.getD 9 0, l.getD 10 0, l.getD 11 0, l.getD 12 0, l.getD 13 0, l.getD 14 0, l.getD 15 0] := by
  match l, h with
  | [_, _, _, _, _, _, _, _, _, _, _, _, _, _, _, _], _ => rfl
theorem run_zero (s : S8) (ws : List Int) : s.run ws 0 = s := rfl
attribute [local irreducible] kk qkk S8.run qT1 qT2 md sw qgen qrnd

theorem comp_q (s : N8) (hs : s.ok) (bn : List Nat) (hb : BytN bn) (hl : bn.length = 64) : comp s.up (up bn) = (qcomp s (qwords bn)).up ∧ (qcomp s (qwords bn)).ok := by
  obtain ⟨h1, h2⟩ := qwords_at 16 bn hl
  have hx : ∀ i, i < 16 → (qwords bn).getD i 0 = WN (up bn) (0 + i) := fun i hi => by rw [h2 i hi, Nat.zero_add, (wn_low bn hb i hi).2.2]
  rw [sixteen (qwords bn) h1]
  rw [hx 0 (by omega), hx 1 (by omega), hx 2 (by omega), hx 3 (by omega), hx 4 (by omega), hx 5 (by omega), hx 6 (by omega), hx 7 (by omega), hx 8 (by omega), hx 9 (by omega), hx 10 (by omega), hx 11 (by omega), hx 12 (by omega), hx 13 (by omega), hx 14 (by omega), hx 15 (by omega)]
  have hq : ∀ x0 x1 x2 x3 x4 x5 x6 x7 x8 x9 x10 x11 x12 x13 x14 x15 : Nat, qcomp s [x0, x1, x2, x3, x4, x5, x6, x7, x8, x9, x10, x11, x12, x13, x14, x15] = qadd s (qrnd qkk (qgen 64 x0 x1 x2 x3 x4 x5 x6 x7 x8 x9 x10 x11 x12 x13 x14 x15) s.a s.b s.c s.d s.e s.f s.g s.h) := fun _ _ _ _ _ _ _ _ _ _ _ _ _ _ _ _ => rfl
  unfold comp
  rw [hq]
  have hg := gen_at (WN (up bn)) (wn_next bn hb) 64 0
  rw [hg]
  have hr := rnd_q (sw (up bn) 48) s.up 64 0 ((List.range 64).map fun j => WN (up bn) (0 + j)) s (by omega) (by rw [List.length_map, List.length_range]) (fun j hj => by
    rw [Nat.zero_add, sw_48 _ _ hj, (wn_all bn hb j).1]
    simp [List.getD, hj]) hs (run_zero _ _)
  rw [List.drop_zero] at hr
  rw [hr.1]
  exact ⟨add_q _ _, qadd_ok _ _⟩
end Go.Proofs.Ytmcmdpbdipgahaa

/-
  The first eight bytes of a sum in the quick form.
-/
namespace Go.Proofs.Ytmcmdpbdipgahaa
open Go.RowKit
def qiv : N8 := ⟨1779033703, 3144134277, 1013904242, 2773480762, 1359893119, 2600822924, 528734635, 1541459225⟩
theorem qiv_up : ivS = qiv.up := rfl
theorem qiv_ok : qiv.ok := by unfold N8.ok qiv; decide
def qhs (m : List Nat) : Nat → N8
  | 0 => qiv
  | k + 1 => qcomp (qhs m k) (qwords ((m.drop (64 * k)).take 64))
theorem bytN_take {l : List Nat} (h : BytN l) (k : Nat) : BytN (l.take k) := fun x hx => h x (List.mem_of_mem_take hx)
theorem bytN_drop {l : List Nat} (h : BytN l) (k : Nat) : BytN (l.drop k) := fun x hx => h x (List.mem_of_mem_drop hx)
theorem bytN_app {a b : List Nat} (h : BytN a) (h2 : BytN b) : BytN (a ++ b) := fun x hx => by
  rcases List.mem_append.1 hx with g | g
  · exact h x g
  · exact h2 x g
theorem hs_succ (m : List Int) (k : Nat) : hs m (k + 1) = comp (hs m k) ((m.drop (64 * k)).take 64) := rfl
theorem hs_q (m : List Nat) (hb : BytN m) : ∀ k, 64 * k ≤ m.length → hs (up m) k = (qhs m k).up ∧ (qhs m k).ok
  | 0, _ => ⟨qiv_up, qiv_ok⟩
  | k + 1, h => by
    obtain ⟨h1, h2⟩ := hs_q m hb k (by omega)
    have e : ((up m).drop (64 * k)).take 64 = up ((m.drop (64 * k)).take 64) := by
      unfold up
      rw [List.map_take, List.map_drop]
    rw [hs_succ, h1, e, qhs]
    exact comp_q _ h2 _ (bytN_take (bytN_drop hb _) _) (by rw [List.length_take, List.length_drop]; omega)
def qbe (n : Nat) : List Nat := [n / 72057594037927936 % 256, n / 281474976710656 % 256, n / 1099511627776 % 256, n / 4294967296 % 256, n / 16777216 % 256, n / 65536 % 256, n / 256 % 256, n % 256]
theorem be_q (n : Nat) : be (n : Int) 8 = up (qbe n) := by
  unfold be up qbe
  simp [List.range_succ]
theorem qbe_byt (n : Nat) : BytN (qbe n) := by
  intro x hx
  simp only [qbe, List.mem_cons, List.not_mem_nil, or_false] at hx
  rcases hx with rfl | rfl | rfl | rfl | rfl | rfl | rfl | rfl <;> exact Nat.mod_lt _ (by decide)
def qfill (n : Nat) : List Nat := 128 :: List.replicate (room n) 0
theorem fill_q (n : Nat) : fill n = up (qfill n) := by
  unfold fill up qfill zeros
  simp
theorem qfill_byt (n : Nat) : BytN (qfill n) := by
  intro x hx
  rcases List.mem_cons.1 hx with rfl | g
  · decide
  · rw [List.eq_of_mem_replicate g]; decide
def qpad (m : List Nat) : List Nat := m ++ qfill m.length ++ qbe (8 * m.length)
theorem pad_q (m : List Nat) : pad (up m) = up (qpad m) := by
  unfold pad qpad
  rw [up_app, up_app, up_len, ← fill_q, ← be_q]
  congr 2
theorem qpad_byt {m : List Nat} (h : BytN m) : BytN (qpad m) := bytN_app (bytN_app h (qfill_byt _)) (qbe_byt _)
def q8 (s : N8) : List Nat := [s.a / 16777216 % 256, s.a / 65536 % 256, s.a / 256 % 256, s.a % 256, s.b / 16777216 % 256, s.b / 65536 % 256, s.b / 256 % 256, s.b % 256]
theorem q8_byt (s : N8) : BytN (q8 s) := by
  intro x hx
  simp only [q8, List.mem_cons, List.not_mem_nil, or_false] at hx
  rcases hx with rfl | rfl | rfl | rfl | rfl | rfl | rfl | rfl <;> exact Nat.mod_lt _ (by decide)
theorem q8_len (s : N8) : (q8 s).length = 8 := rfl
theorem out_q (s : N8) : (outB s.up 32).take 8 = up (q8 s) := by
  have e : (outB s.up 32).take 8 = [(s.a : Int) / 2 ^ 24 % 256, (s.a : Int) / 2 ^ 16 % 256, (s.a : Int) / 2 ^ 8 % 256, (s.a : Int) / 2 ^ 0 % 256, (s.b : Int) / 2 ^ 24 % 256, (s.b : Int) / 2 ^ 16 % 256, (s.b : Int) / 2 ^ 8 % 256, (s.b : Int) / 2 ^ 0 % 256] := rfl
  rw [e]
  unfold up q8
  simp
/-- the first eight bytes of the sum -/
def qsha (m : List Nat) : List Nat := q8 (qhs (qpad m) ((qpad m).length / 64))
theorem qsha_byt (m : List Nat) : BytN (qsha m) := q8_byt _
theorem qsha_len (m : List Nat) : (qsha m).length = 8 := rfl
theorem sha_q (m : List Nat) (h : BytN m) : (sha (up m)).take 8 = up (qsha m) := by
  unfold sha qsha
  rw [pad_q, up_len, (hs_q _ (qpad_byt h) _ (by omega)).1]
  exact out_q _
end Go.Proofs.Ytmcmdpbdipgahaa

/-
  Marks, secrets, publics, the tree's root in the quick form.
-/
namespace Go.Proofs.Ytmcmdpbdipgahaa
open Go.RowKit
def qmk (x : List Nat) : List Nat := qsha ([112, 8, 0, 0, 0] ++ x)
def qsec (s : List Nat) (x i b : Nat) : List Nat := qsha ([115, 8, 0, 0, 0] ++ s ++ [4, 0, 0, 0, x, i, b, 0])
def qpk (l : List Nat) : List Nat := qsha ([107, 0, 1, 0, 0] ++ l)
def qleaf (x : List Nat) : List Nat := qsha ([108, 8, 0, 0, 0] ++ x)
def qtwo (x y : List Nat) : List Nat := qsha ([109, 8, 0, 0, 0] ++ x ++ [8, 0, 0, 0] ++ y)
theorem digs_8 : digs 8 4 = up [8, 0, 0, 0] := by decide
theorem digs_4 : digs 4 4 = up [4, 0, 0, 0] := by decide
theorem digs_256 : digs ((256 : Nat) : Int) 4 = up [0, 1, 0, 0] := by decide
theorem bytN_lit {l : List Nat} (h : l.all (fun x => decide (x < 256)) = true) : BytN l := fun x hx => by
  have := List.all_eq_true.1 h x hx
  simpa using this
theorem mk_q (x : List Nat) (h : BytN x) : mk (up x) = up (qmk x) := by
  unfold mk qmk
  rw [← sha_q _ (bytN_app (bytN_lit (by decide)) h)]
  congr 2
theorem sec_q (s : List Nat) (x i b : Nat) (h : BytN s) (hx : x < 256) (hi : i < 256) (hb : b < 256) : sec (up s) (x : Int) i b = up (qsec s x i b) := by
  unfold sec qsec
  rw [← sha_q _ (bytN_app (bytN_app (bytN_lit (by decide)) h) (bytN_lit (by simp [hx, hi, hb])))]
  congr 2
  unfold secM
  rw [digs_8, digs_4, up_app, up_app]
  show _ = up [115, 8, 0, 0, 0] ++ up s ++ up ([4, 0, 0, 0] ++ [x, i, b, 0])
  rw [up_app]
  simp only [List.append_assoc]
  rfl
theorem pk_q (l : List Nat) (h : BytN l) : pubk (up l) = up (qpk l) := by
  unfold pubk qpk
  rw [← sha_q _ (bytN_app (bytN_lit (by decide)) h)]
  congr 2
theorem leaf_q (x : List Nat) (h : BytN x) : leafH (up x) = up (qleaf x) := by
  unfold leafH qleaf
  rw [← sha_q _ (bytN_app (bytN_lit (by decide)) h)]
  congr 2
theorem two_q (x y : List Nat) (h : BytN x) (h2 : BytN y) : twoH (up x) (up y) = up (qtwo x y) := by
  unfold twoH qtwo
  rw [← sha_q _ (bytN_app (bytN_app (bytN_app (bytN_lit (by decide)) h) (bytN_lit (by decide))) h2)]
  congr 2
  unfold twoM
  rw [digs_8, up_app, up_app, up_app]
  rfl
def qcat (F : Nat → List Nat) : Nat → List Nat
  | 0 => []
  | n + 1 => qcat F n ++ F n
theorem qcat_byt (F : Nat → List Nat) (hF : ∀ j, BytN (F j)) : ∀ n, BytN (qcat F n)
  | 0 => fun x hx => by cases hx
  | n + 1 => bytN_app (qcat_byt F hF n) (hF n)
theorem qcat_up (F : Nat → List Nat) : ∀ n, up (qcat F n) = cat (fun j => up (F j)) n
  | 0 => rfl
  | n + 1 => by rw [qcat, up_app, qcat_up F n, cat_succ]
/-- a key's public -/
def qpub (s : List Nat) (x : Nat) : List Nat := qpk (qcat (fun j => qmk (qsec s x (j / 2) (j % 2))) 32)
theorem qpub_byt (s : List Nat) (x : Nat) : BytN (qpub s x) := qsha_byt _
theorem pub_q (s : List Nat) (x : Nat) (h : BytN s) (hx : x < 256) : pubF (up s) x = up (qpub s x) := by
  unfold pubF qpub
  rw [← pk_q _ (qcat_byt (fun j => qmk (qsec s x (j / 2) (j % 2))) (fun j => qsha_byt _) 32), qcat_up]
  refine congrArg pubk (cat_ext fun j hj => ?_)
  unfold marksF
  rw [at8_cat _ (keyF_len (up s) x) 32 j hj, ← mk_q (qsec s x (j / 2) (j % 2)) (qsha_byt _)]
  refine congrArg mk ?_
  rw [← sec_q s x (j / 2) (j % 2) h hx (by omega) (by omega)]
  rfl
theorem root_app (f n c : Nat) (A B : List Int) (hn : 2 ≤ n) (hc : cutN n = c) (hA : A.length = 8 * c) (hB : B.length = 8 * (n - c)) (hcn : c ≤ n) : rootF (f + 1) (A ++ B) = twoH (rootF f A) (rootF f B) := by
  rw [rootF_two f (A ++ B) n (by rw [List.length_append]; omega) hn, hc, List.take_left' hA, List.drop_left' hA]
theorem root_2 (f : Nat) (p q : List Int) (hp : p.length = 8) (hq : q.length = 8) : rootF (f + 2) (p ++ q) = twoH (leafH p) (leafH q) := by
  rw [root_app (f + 1) 2 1 p q (by omega) cut_2 (by omega) (by omega) (by omega), rootF_one f p (by omega), rootF_one f q (by omega)]
theorem root_4 (f : Nat) (p q r s : List Int) (hp : p.length = 8) (hq : q.length = 8) (hr : r.length = 8) (hs : s.length = 8) : rootF (f + 3) ((p ++ q) ++ (r ++ s)) = twoH (twoH (leafH p) (leafH q)) (twoH (leafH r) (leafH s)) := by
  rw [root_app (f + 2) 4 2 (p ++ q) (r ++ s) (by omega) cut_4 (by rw [List.length_append]; omega) (by rw [List.length_append]; omega) (by omega), root_2 f p q hp hq, root_2 f r s hr hs]
/-- a tree's root out of its publics -/
def qroot (p0 p1 p2 p3 p4 p5 p6 p7 : List Nat) : List Nat := qtwo (qtwo (qtwo (qleaf p0) (qleaf p1)) (qtwo (qleaf p2) (qleaf p3))) (qtwo (qtwo (qleaf p4) (qleaf p5)) (qtwo (qleaf p6) (qleaf p7)))
theorem pubs_8 (seed : List Int) : pubs seed = ((pubF seed 0 ++ pubF seed 1) ++ (pubF seed 2 ++ pubF seed 3)) ++ ((pubF seed 4 ++ pubF seed 5) ++ (pubF seed 6 ++ pubF seed 7)) := by
  unfold pubs
  simp only [cat, List.nil_append, List.append_assoc]
theorem root_q (s : List Nat) (h : BytN s) : rootL (up s) = up (qroot (qpub s 0) (qpub s 1) (qpub s 2) (qpub s 3) (qpub s 4) (qpub s 5) (qpub s 6) (qpub s 7)) := by
  unfold rootL qroot
  rw [rootV_ok _ (by decide), pubs_8]
  have l := pubF_len (up s)
  rw [root_app 7 8 4 _ _ (by omega) cut_8 (by simp only [List.length_append, l]) (by simp only [List.length_append, l]) (by omega), root_4 4 _ _ _ _ (l 0) (l 1) (l 2) (l 3), root_4 4 _ _ _ _ (l 4) (l 5) (l 6) (l 7)]
  rw [pub_q s 0 h (by omega), pub_q s 1 h (by omega), pub_q s 2 h (by omega), pub_q s 3 h (by omega), pub_q s 4 h (by omega), pub_q s 5 h (by omega), pub_q s 6 h (by omega), pub_q s 7 h (by omega)]
  simp only [leaf_q _ (qpub_byt _ _), two_q _ _ (qsha_byt _) (qsha_byt _), qleaf, qtwo]
end Go.Proofs.Ytmcmdpbdipgahaa
