/-
  SHA-256 in the quick form: rounds, words, chunks, the sum's first eight bytes.
-/
import Derived.Test.YtfneopmgckejdaaDoorF1
namespace Go.Proofs.YtfneopmgckejdaaDoor
open Go.RowKit
structure N8 where
  a : Nat
  b : Nat
  c : Nat
  d : Nat
  e : Nat
  f : Nat
  g : Nat
  h : Nat
def N8.up (s : N8) : S8 := ⟨s.a, s.b, s.c, s.d, s.e, s.f, s.g, s.h⟩
def N8.ok (s : N8) : Prop := s.a < 4294967296 ∧ s.b < 4294967296 ∧ s.c < 4294967296 ∧ s.d < 4294967296 ∧ s.e < 4294967296 ∧ s.f < 4294967296 ∧ s.g < 4294967296 ∧ s.h < 4294967296
def qrnd : List Nat → List Nat → Nat → Nat → Nat → Nat → Nat → Nat → Nat → Nat → N8
  | k :: ks, w :: ws, a, b, c, d, e, f, g, h => qrnd ks ws (md (Nat.add (qT1 e f g h k w) (qT2 a b c))) a b c (md (Nat.add d (qT1 e f g h k w))) e f g
  | _, _, a, b, c, d, e, f, g, h => ⟨a, b, c, d, e, f, g, h⟩
termination_by structural ks => ks
def qstep (s : N8) (k w : Nat) : N8 := ⟨md (Nat.add (qT1 s.e s.f s.g s.h k w) (qT2 s.a s.b s.c)), s.a, s.b, s.c, md (Nat.add s.d (qT1 s.e s.f s.g s.h k w)), s.e, s.f, s.g⟩
theorem qstep_ok {s : N8} (h : s.ok) (k w : Nat) : (qstep s k w).ok := ⟨md_lt _, h.1, h.2.1, h.2.2.1, md_lt _, h.2.2.2.2.1, h.2.2.2.2.2.1, h.2.2.2.2.2.2.1⟩
theorem T1_q {s : N8} (h : s.ok) (k w : Nat) : t1 s.up k w = ((qT1 s.e s.f s.g s.h k w : Nat) : Int) := by
  obtain ⟨_, _, _, _, he, hf, hg, _⟩ := h
  unfold t1 qT1
  rw [md_cast]
  show ((s.h : Int) + bs1 s.e + ch s.e s.f s.g + k + w) % 4294967296 = _
  rw [bs1_q _ he, ch_q _ _ _ he hf hg]
  rfl
theorem T2_q {s : N8} (h : s.ok) : t2 s.up = ((qT2 s.a s.b s.c : Nat) : Int) := by
  obtain ⟨ha, hb, hc, _⟩ := h
  unfold t2 qT2
  rw [md_cast]
  show (bs0 s.a + maj s.a s.b s.c) % 4294967296 = _
  rw [bs0_q _ ha, maj_q _ _ _ ha hb hc]
  rfl
theorem step_q {s : N8} (h : s.ok) (k w : Nat) : s.up.step k w = (qstep s k w).up := by
  unfold S8.step qstep N8.up
  have h1 := T1_q h k w
  have h2 := T2_q h
  unfold N8.up at h1 h2
  simp only [h1, h2, md_cast]
  rfl
def qkk : List Nat := [1116352408, 1899447441, 3049323471, 3921009573, 961987163, 1508970993, 2453635748, 2870763221, 3624381080, 310598401, 607225278, 1426881987, 1925078388, 2162078206, 2614888103, 3248222580, 3835390401, 4022224774, 264347078, 604807628, 770255983, 1249150122, 1555081692, 1996064986, 2554220882, 2821834349, 2952996808, 3210313671, 3336571891, 3584528711, 113926993, 338241895, 666307205, 773529912, 1294757372, 1396182291, 1695183700, 1986661051, 2177026350, 2456956037, 2730485921, 2820302411, 3259730800, 3345764771, 3516065817, 3600352804, 4094571909, 275423344, 430227734, 506948616, 659060556, 883997877, 958139571, 1322822218, 1537002063, 1747873779, 1955562222, 2024104815, 2227730452, 2361852424, 2428436474, 2756734187, 3204031479, 3329325298]
theorem qkk_eq : kk = qkk.map (fun n : Nat => (n : Int)) := by decide +kernel
theorem qkk_at (t : Nat) (h : t < 64) : kk.getD t 0 = ((qkk.getD t 0 : Nat) : Int) := by
  rw [qkk_eq]
  have hl : qkk.length = 64 := rfl
  simp [List.getD, show t < qkk.length by omega]
theorem run_one (s : S8) (ws : List Int) (j : Nat) : s.run ws (j + 1) = (s.run ws j).step (kk.getD j 0) (ws.getD j 0) := rfl
attribute [local irreducible] kk qkk S8.run qT1 qT2 md
theorem qkk_len : qkk.length = 64 := by decide +kernel
theorem qkk_end : qkk.drop 64 = [] := List.drop_eq_nil_of_le (by rw [qkk_len]; exact Nat.le_refl _)
theorem rnd_q (ws : List Int) (S : S8) : ∀ (n t : Nat) (wn : List Nat) (s : N8), t + n = 64 → wn.length = n → (∀ j, j < n → ws.getD (t + j) 0 = ((wn.getD j 0 : Nat) : Int)) → s.ok → S.run ws t = s.up →
    S.run ws 64 = (qrnd (qkk.drop t) wn s.a s.b s.c s.d s.e s.f s.g s.h).up ∧ (qrnd (qkk.drop t) wn s.a s.b s.c s.d s.e s.f s.g s.h).ok
  | 0, t, wn, s, ht, hl, _, ho, hr => by
    obtain rfl : t = 64 := by omega
    obtain rfl := List.eq_nil_of_length_eq_zero hl
    rw [qkk_end, qrnd]
    · exact ⟨hr, ho⟩
    · intros; contradiction
  | n + 1, t, [], s, _, hl, _, _, _ => by cases hl
  | n + 1, t, w :: wn, s, ht, hl, hw, ho, hr => by
    have hk : t < qkk.length := by rw [qkk_len]; omega
    have e : qkk.drop t = qkk.getD t 0 :: qkk.drop (t + 1) := by
      rw [List.drop_eq_getElem_cons hk]
      simp [List.getD, hk]
    have h1 : S.run ws (t + 1) = (qstep s (qkk.getD t 0) w).up := by
      rw [run_one, hr, qkk_at t (by omega)]
      have := hw 0 (by omega)
      rw [Nat.add_zero] at this
      rw [this]
      exact step_q ho _ _
    rw [e, qrnd]
    have := rnd_q ws S n (t + 1) wn (qstep s (qkk.getD t 0) w) (by omega) (by simpa using hl) (fun j hj => by
      have := hw (j + 1) (by omega)
      rw [show t + 1 + j = t + (j + 1) by omega, this]
      rfl) (qstep_ok ho _ _) h1
    exact this
/- the words -/
def qgen : Nat → Nat → Nat → Nat → Nat → Nat → Nat → Nat → Nat → Nat → Nat → Nat → Nat → Nat → Nat → Nat → Nat → List Nat
  | 0, _, _, _, _, _, _, _, _, _, _, _, _, _, _, _, _ => []
  | n + 1, x0, x1, x2, x3, x4, x5, x6, x7, x8, x9, x10, x11, x12, x13, x14, x15 => x0 :: qgen n x1 x2 x3 x4 x5 x6 x7 x8 x9 x10 x11 x12 x13 x14 x15 (md (Nat.add (Nat.add (Nat.add x0 (qo0 x1)) x9) (qo1 x14)))
termination_by structural n => n
theorem gen_at (W : Nat → Nat) (hW : ∀ i, W (i + 16) = md (Nat.add (Nat.add (Nat.add (W i) (qo0 (W (i + 1)))) (W (i + 9))) (qo1 (W (i + 14))))) :
    ∀ (n t : Nat), qgen n (W t) (W (t + 1)) (W (t + 2)) (W (t + 3)) (W (t + 4)) (W (t + 5)) (W (t + 6)) (W (t + 7)) (W (t + 8)) (W (t + 9)) (W (t + 10)) (W (t + 11)) (W (t + 12)) (W (t + 13)) (W (t + 14)) (W (t + 15)) = (List.range n).map fun j => W (t + j)
  | 0, t => by rw [qgen]; rfl
  | n + 1, t => by
    rw [qgen, ← hW t, List.range_succ_eq_map, List.map_cons, List.map_map]
    have := gen_at W hW n (t + 1)
    simp only [Nat.add_assoc, Nat.reduceAdd] at this
    congr 1
    rw [this]
    apply List.map_congr_left
    intro j _
    show W (t + (1 + j)) = W (t + (j + 1))
    rw [Nat.add_comm 1 j]
theorem w4_q (a b c d : Nat) (ha : a < 256) (hb : b < 256) (hc : c < 256) (hd : d < 256) : w4 (a : Int) b c d = ((((a * 256 + b) * 256 + c) * 256 + d : Nat) : Int) := by
  unfold w4
  rw [wrapN a (by omega), wrapN b (by omega), wrapN c (by omega), wrapN d (by omega)]
  rw [show (a : Int) * 16777216 = ((a * 16777216 : Nat) : Int) by simp, show (b : Int) * 65536 = ((b * 65536 : Nat) : Int) by simp, show (c : Int) * 256 = ((c * 256 : Nat) : Int) by simp]
  rw [wrapN _ (by omega), wrapN _ (by omega), wrapN _ (by omega)]
  have o1 : a * 16777216 ||| b * 65536 = a * 16777216 + b * 65536 := by
    have := Nat.two_pow_add_eq_or_of_lt (i := 24) (b := b * 65536) (by omega) a
    rw [show 2 ^ 24 * a = a * 16777216 by omega] at this
    exact this.symm
  have o2 : (a * 16777216 + b * 65536) ||| c * 256 = a * 16777216 + b * 65536 + c * 256 := by
    have := Nat.two_pow_add_eq_or_of_lt (i := 16) (b := c * 256) (by omega) (a * 256 + b)
    rw [show 2 ^ 16 * (a * 256 + b) = a * 16777216 + b * 65536 by omega] at this
    exact this.symm
  have o3 : (a * 16777216 + b * 65536 + c * 256) ||| d = a * 16777216 + b * 65536 + c * 256 + d := by
    have := Nat.two_pow_add_eq_or_of_lt (i := 8) (b := d) (by omega) ((a * 256 + b) * 256 + c)
    rw [show 2 ^ 8 * ((a * 256 + b) * 256 + c) = a * 16777216 + b * 65536 + c * 256 by omega] at this
    exact this.symm
  rw [qor _ _ (by omega) (by omega), o1, qor _ _ (by omega) (by omega), o2, qor _ _ (by omega) (by omega), o3]
  exact congrArg (fun n : Nat => (n : Int)) (by omega)
end Go.Proofs.YtfneopmgckejdaaDoor
