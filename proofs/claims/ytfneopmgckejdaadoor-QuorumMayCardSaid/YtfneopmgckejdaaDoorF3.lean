/-
  SHA-256 in the quick form: chunks, the sum's first eight bytes.
-/
import Derived.Test.YtfneopmgckejdaaDoorF2
namespace Go.Proofs.YtfneopmgckejdaaDoor
open Go.RowKit
def up (l : List Nat) : List Int := l.map fun n : Nat => (n : Int)
def BytN (l : List Nat) : Prop := ∀ x ∈ l, x < 256
theorem up_app (a b : List Nat) : up (a ++ b) = up a ++ up b := List.map_append
theorem up_len (a : List Nat) : (up a).length = a.length := List.length_map _
theorem up_at (l : List Nat) (i : Nat) : (up l).getD i 0 = ((l.getD i 0 : Nat) : Int) := by
  unfold up
  simp only [List.getD_eq_getElem?_getD, List.getElem?_map]
  cases l[i]? <;> rfl
theorem byt_at {l : List Nat} (h : BytN l) (i : Nat) : l.getD i 0 < 256 := by
  rw [List.getD_eq_getElem?_getD]
  cases e : l[i]? with
  | none => decide
  | some x => exact h x (List.mem_of_getElem? e)
theorem sw_succ (bg : List Int) (k : Nat) : sw bg (k + 1) = sw bg k ++ [nxt (sw bg k) (16 + k)] := rfl
theorem sw_stay (bg : List Int) (k i : Nat) (h : i < 16 + k) : ∀ d, (sw bg (k + d)).getD i 0 = (sw bg k).getD i 0
  | 0 => rfl
  | d + 1 => by
    rw [← Nat.add_assoc, sw_succ, getD_pad _ _ _ (by rw [sw_len]; omega)]
    exact sw_stay bg k i h d
theorem sw_next (bg : List Int) (j : Nat) : (sw bg (j + 16)).getD (j + 16) 0 = ((sw bg j).getD j 0 + sg0 ((sw bg (j + 1)).getD (j + 1) 0) + (sw bg (j + 9)).getD (j + 9) 0 + sg1 ((sw bg (j + 14)).getD (j + 14) 0)) % 4294967296 := by
  have e : (sw bg (j + 16)).getD (j + 16) 0 = (sw bg (j + 1)).getD (j + 16) 0 := by
    have := sw_stay bg (j + 1) (j + 16) (by omega) 15
    rw [show j + 1 + 15 = j + 16 by omega] at this
    exact this
  have e2 : (sw bg (j + 1)).getD (j + 16) 0 = nxt (sw bg j) (16 + j) := by
    rw [sw_succ, List.getD_eq_getElem?_getD, List.getElem?_append_right (by rw [sw_len]; omega), sw_len, show j + 16 - (16 + j) = 0 by omega]
    rfl
  rw [e, e2]
  unfold nxt
  rw [show 16 + j - 16 = j by omega, show 16 + j - 15 = j + 1 by omega, show 16 + j - 7 = j + 9 by omega, show 16 + j - 2 = j + 14 by omega]
  rw [sw_stay bg j (j + 1) (by omega) 1, sw_stay bg j (j + 9) (by omega) 9, sw_stay bg j (j + 14) (by omega) 14]
/-- a word -/
def WN (bg : List Int) (i : Nat) : Nat := ((sw bg i).getD i 0).toNat
theorem word_q (bn : List Nat) (hb : BytN bn) (k : Nat) : word (up bn) k = ((((bn.getD (4 * k) 0 * 256 + bn.getD (4 * k + 1) 0) * 256 + bn.getD (4 * k + 2) 0) * 256 + bn.getD (4 * k + 3) 0 : Nat) : Int) := by
  unfold word
  rw [up_at, up_at, up_at, up_at, w4_q _ _ _ _ (byt_at hb _) (byt_at hb _) (byt_at hb _) (byt_at hb _)]
theorem sw_low (bg : List Int) (i : Nat) (h : i < 16) : (sw bg i).getD i 0 = word bg i := by
  have := sw_stay bg 0 i (by omega) i
  rw [Nat.zero_add] at this
  rw [this]
  show (fst bg 16).getD i 0 = _
  unfold fst
  simp [List.getD, h]
theorem wn_low (bn : List Nat) (hb : BytN bn) (i : Nat) (h : i < 16) : (sw (up bn) i).getD i 0 = ((WN (up bn) i : Nat) : Int) ∧ WN (up bn) i < 4294967296 ∧ WN (up bn) i = ((bn.getD (4 * i) 0 * 256 + bn.getD (4 * i + 1) 0) * 256 + bn.getD (4 * i + 2) 0) * 256 + bn.getD (4 * i + 3) 0 := by
  have e := sw_low (up bn) i h
  rw [word_q bn hb] at e
  have b0 := byt_at hb (4 * i)
  have b1 := byt_at hb (4 * i + 1)
  have b2 := byt_at hb (4 * i + 2)
  have b3 := byt_at hb (4 * i + 3)
  unfold WN
  rw [e, Int.toNat_natCast]
  exact ⟨rfl, by omega, rfl⟩
theorem wn_all (bn : List Nat) (hb : BytN bn) : ∀ i, (sw (up bn) i).getD i 0 = ((WN (up bn) i : Nat) : Int) ∧ WN (up bn) i < 4294967296 := fun i => by
  induction i using Nat.strongRecOn with
  | ind i ih =>
    by_cases h : i < 16
    · exact ⟨(wn_low bn hb i h).1, (wn_low bn hb i h).2.1⟩
    · obtain ⟨j, rfl⟩ : ∃ j, i = j + 16 := ⟨i - 16, by omega⟩
      have e := sw_next (up bn) j
      rw [(ih j (by omega)).1, (ih (j + 1) (by omega)).1, (ih (j + 9) (by omega)).1, (ih (j + 14) (by omega)).1, sg0_q _ (ih (j + 1) (by omega)).2, sg1_q _ (ih (j + 14) (by omega)).2] at e
      unfold WN at *
      rw [e]
      omega
theorem wn_next (bn : List Nat) (hb : BytN bn) (j : Nat) : WN (up bn) (j + 16) = md (Nat.add (Nat.add (Nat.add (WN (up bn) j) (qo0 (WN (up bn) (j + 1)))) (WN (up bn) (j + 9))) (qo1 (WN (up bn) (j + 14)))) := by
  have e := sw_next (up bn) j
  rw [(wn_all bn hb j).1, (wn_all bn hb (j + 1)).1, (wn_all bn hb (j + 9)).1, (wn_all bn hb (j + 14)).1, (wn_all bn hb (j + 16)).1, sg0_q _ (wn_all bn hb (j + 1)).2, sg1_q _ (wn_all bn hb (j + 14)).2] at e
  have h := md_cast (Nat.add (Nat.add (Nat.add (WN (up bn) j) (qo0 (WN (up bn) (j + 1)))) (WN (up bn) (j + 9))) (qo1 (WN (up bn) (j + 14))))
  refine Int.ofNat.inj (?_ : ((WN (up bn) (j + 16) : Nat) : Int) = ((md _ : Nat) : Int))
  rw [h, e]
  rfl
theorem sw_48 (bg : List Int) (t : Nat) (h : t < 64) : (sw bg 48).getD t 0 = (sw bg t).getD t 0 := by
  rcases Nat.lt_or_ge t 48 with g | g
  · have := sw_stay bg t t (by omega) (48 - t)
    rw [show t + (48 - t) = 48 by omega] at this
    exact this
  · have := sw_stay bg 48 t (by omega) (t - 48)
    rw [show 48 + (t - 48) = t by omega] at this
    exact this.symm
def qwords : List Nat → List Nat
  | a :: b :: c :: d :: r => (((a * 256 + b) * 256 + c) * 256 + d) :: qwords r
  | _ => []
theorem qwords_at : ∀ (n : Nat) (l : List Nat), l.length = 4 * n → (qwords l).length = n ∧ ∀ k, k < n → (qwords l).getD k 0 = ((l.getD (4 * k) 0 * 256 + l.getD (4 * k + 1) 0) * 256 + l.getD (4 * k + 2) 0) * 256 + l.getD (4 * k + 3) 0
  | 0, l, h => by
    obtain rfl := List.eq_nil_of_length_eq_zero (by omega : l.length = 0)
    exact ⟨rfl, fun k hk => by omega⟩
  | n + 1, a :: b :: c :: d :: r, h => by
    have hr : r.length = 4 * n := by simp only [List.length_cons] at h; omega
    obtain ⟨h1, h2⟩ := qwords_at n r hr
    refine ⟨by rw [qwords, List.length_cons, h1], fun k hk => ?_⟩
    rw [qwords]
    cases k with
    | zero => rfl
    | succ k =>
      have := h2 k (by omega)
      rw [List.getD_cons_succ, this]
      rfl
  | n + 1, [], h => by simp at h
  | n + 1, [_], h => by simp at h; omega
  | n + 1, [_, _], h => by simp at h; omega
  | n + 1, [_, _, _], h => by simp at h; omega
def qadd (s r : N8) : N8 := ⟨md (Nat.add s.a r.a), md (Nat.add s.b r.b), md (Nat.add s.c r.c), md (Nat.add s.d r.d), md (Nat.add s.e r.e), md (Nat.add s.f r.f), md (Nat.add s.g r.g), md (Nat.add s.h r.h)⟩
theorem qadd_ok (s r : N8) : (qadd s r).ok := ⟨md_lt _, md_lt _, md_lt _, md_lt _, md_lt _, md_lt _, md_lt _, md_lt _⟩
theorem add_q (s r : N8) : s.up.add r.up = (qadd s r).up := by
  unfold S8.add qadd N8.up
  simp only [md_cast]
  rfl
def qcomp (s : N8) : List Nat → N8
  | [x0, x1, x2, x3, x4, x5, x6, x7, x8, x9, x10, x11, x12, x13, x14, x15] => qadd s (qrnd qkk (qgen 64 x0 x1 x2 x3 x4 x5 x6 x7 x8 x9 x10 x11 x12 x13 x14 x15) s.a s.b s.c s.d s.e s.f s.g s.h)
  | _ => s
theorem sixteen (l : List Nat) (h : l.length = 16) : l = [l.getD 0 0, l.getD 1 0, l.getD 2 0, l.getD 3 0, l.getD 4 0, l.getD 5 0, l.getD 6 0, l.getD 7 0, l.getD 8 0, l.getD 9 0, l.getD 10 0, l.getD 11 0, l.getD 12 0, l.getD 13 0, l.getD 14 0, l.getD 15 0] := by
  match l, h with
  | [_, _, _, _, _, _, _, _, _, _, _, _, _, _, _, _], _ => rfl
theorem run_zero (s : S8) (ws : List Int) : s.run ws 0 = s := rfl
attribute [local irreducible] kk qkk S8.run qT1 qT2 md sw qgen qrnd
theorem comp_q (s : N8) (hs : s.ok) (bn : List Nat) (hb : BytN bn) (hl : bn.length = 64) : comp s.up (up bn) = (qcomp s (qwords bn)).up ∧ (qcomp s (qwords bn)).ok := by
  obtain ⟨h1, h2⟩ := qwords_at 16 bn hl
  have hx : ∀ i, i < 16 → (qwords bn).getD i 0 = WN (up bn) (0 + i) := fun i hi => by rw [h2 i hi, Nat.zero_add, (wn_low bn hb i hi).2.2]
  rw [sixteen (qwords bn) h1]
  rw [hx 0 (by omega), hx 1 (by omega), hx 2 (by omega), hx 3 (by omega), hx 4 (by omega), hx 5 (by omega), hx 6 (by omega), hx 7 (by omega), hx 8 (by omega), hx 9 (by omega), hx 10 (by omega), hx 11 (by omega), hx 12 (by omega), hx 13 (by omega), hx 14 (by omega), hx 15 (by omega)]
  have hq : ∀ x0 x1 x2 x3 x4 x5 x6 x7 x8 x9 x10 x11 x12 x13 x14 x15 : Nat, qcomp s [x0, x1, x2, x3, x4, x5, x6, x7, x8, x9, x10, x11, x12, x13, x14, x15] = qadd s (qrnd qkk (qgen 64 x0 x1 x2 x3 x4 x5 x6 x7 x8 x9 x10 x11 x12 x13 x14 x15) s.a s.b s.c s.d s.e s.f s.g s.h) := fun _ _ _ _ _ _ _ _ _ _ _ _ _ _ _ _ => rfl
  unfold comp
  rw [hq]
  have hg := gen_at (WN (up bn)) (wn_next bn hb) 64 0
  rw [hg]
  have hr := rnd_q (sw (up bn) 48) s.up 64 0 ((List.range 64).map fun j => WN (up bn) (0 + j)) s (by omega) (by rw [List.length_map, List.length_range]) (fun j hj => by
    rw [Nat.zero_add, sw_48 _ _ hj, (wn_all bn hb j).1]
    simp [List.getD, hj]) hs (run_zero _ _)
  rw [List.drop_zero] at hr
  rw [hr.1]
  exact ⟨add_q _ _, qadd_ok _ _⟩
end Go.Proofs.YtfneopmgckejdaaDoor
