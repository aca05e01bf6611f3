/-
  The Writer's write in one; Num, Hash, Bytes, End.
-/
import Derived.Test.YtjkhbddnbpnmcaaW6
namespace Go.Proofs.Ytjkhbddnbpnmcaa
open Go.RowKit
attribute [local go_sem ↓] Go.wp_at_zero Go.wp_at_succ

/-- bytes that still fit are written behind what was written -/
theorem c34 (base Wb : Nat) (bs : List Int) (A : Option Addr) (m c : Nat) (ys : List Int) (w : World) (h : Wr base Wb w bs) (hs : Src w A m ys) (hc : A = none → c = 0) (hl : bs.length + m ≤ 131072) :
    Calls Try.prog 34 #[.pointer (some ⟨Wb, 0, none⟩), .slice A m c] w fun e w' => e = .returned (.tuple #[]) ∧ Wr base Wb w' (bs ++ ys) ∧ Below base w w' := by
  rcases h with ⟨rfl, hb, ht⟩ | ⟨Pb, A0, c0, ho⟩
  · exact (c34n base Wb A m c ys w hb ht hs hc (by simpa using hl)).mono fun _ _ h => ⟨h.1, .inr (by simpa using h.2.1), h.2.2⟩
  · exact (c34o base Wb Pb A0 c0 bs A m c ys w ho hs hc hl).mono fun _ _ h => ⟨h.1, .inr ⟨Pb, h.2.1⟩, h.2.2⟩
theorem Wr.keep {base Wb : Nat} {w W : World} {bs : List Int} (h : Wr base Wb w bs) (hk : ∀ k, k < w.heap.size → W.heap[k]? = w.heap[k]?) : Wr base Wb W bs := by
  rcases h with ⟨h1, h2, h3⟩ | ⟨Pb, A, c, h⟩
  · exact .inl ⟨h1, h2, (hk Wb (lt_of_block h3)).trans h3⟩
  · exact .inr ⟨Pb, A, c, h.bw, h.bp, h.ne, (hk Wb (lt_of_block h.three)).trans h.three, (hk Pb (lt_of_block h.one)).trans h.one, own_keep h.own (fun q hq => hk q (own_lt h.own q hq)), h.aw, h.ap⟩
theorem Wx.keep {base Wb : Nat} {w W : World} {err : Int} (h : Wx base Wb w err) (hk : ∀ k, k < w.heap.size → W.heap[k]? = w.heap[k]?) : Wx base Wb W err :=
  ⟨h.1, (hk Wb (lt_of_block h.2)).trans h.2⟩
theorem wr_three {base Wb : Nat} {w : World} {bs : List Int} (h : Wr base Wb w bs) : base ≤ Wb ∧ ∃ x, Three w Wb x (.int .i64 bs.length) (.int .i64 0) := by
  rcases h with ⟨rfl, hb, ht⟩ | ⟨Pb, A0, c0, ho⟩
  · exact ⟨hb, _, ht⟩
  · exact ⟨ho.bw, _, ho.three⟩
theorem c34g (base Wb : Nat) (bs : List Int) (A : Option Addr) (m c : Nat) (w : World) (h : Wr base Wb w bs) (hn : bs.length ≤ 131072) (hl : 131072 < bs.length + m) :
    Calls Try.prog 34 #[.pointer (some ⟨Wb, 0, none⟩), .slice A m c] w fun e w' => e = .returned (.tuple #[]) ∧ Wx base Wb w' 3 ∧ Below base w w' := by
  obtain ⟨hb, x, ht⟩ := wr_three h
  exact c34l base Wb x bs.length A m c w hb ht hn hl

theorem numOk (n : Int) (k : Nat) (_hk : k ≤ 7) : n / 2 ^ (8 * k) = 0 ↔ 0 ≤ n ∧ n < 2 ^ (8 * k) := by
  have hp := pow_pos8 k
  constructor
  · intro h
    have h1 := Int.emod_add_mul_ediv n (2 ^ (8 * k))
    have h2 := Int.emod_nonneg n (show (2 : Int) ^ (8 * k) ≠ 0 by omega)
    have h3 := Int.emod_lt_of_pos n hp
    rw [h] at h1
    simp at h1
    omega
  · rintro ⟨h1, h2⟩
    exact Int.ediv_eq_zero_of_lt h1 h2

/-- of parts without Go: may a number be written in so many bytes -/
def fitB (n : Int) (k : Int) : Bool := decide (1 ≤ k) && decide (k ≤ 7) && decide (0 ≤ n) && decide (n < 2 ^ (8 * k.toNat))

theorem c26y (base Wb k : Nat) (n : Int) (bs : List Int) (w : World) (h : Wr base Wb w bs) (hk1 : 1 ≤ k) (hk7 : k ≤ 7) (hn0 : 0 ≤ n) (hn1 : n < 2 ^ (8 * k)) (hl : bs.length + k ≤ 131072) :
    Calls Try.prog 26 #[.pointer (some ⟨Wb, 0, none⟩), .int .i64 n, .int .i64 k] w fun e w' => e = .returned (.tuple #[]) ∧ Wr base Wb w' (bs ++ digs n k) ∧ Below base w w' := by
  obtain ⟨hb, x, ht⟩ := wr_three h
  obtain ⟨h0, h1, h2⟩ := three_cell ht
  have hz := (numOk n k hk7).2 ⟨hn0, hn1⟩
  have h8 : (8 * (k : Int)).toNat = 8 * k := by omega
  have hmin : min (8 * k) 64 = 8 * k := by omega
  have HW := Lib.hid h
  clear h hb ht
  go_enter Try.func26, Try.ntmps26
  go_wp2_with fail
  refine (c35 n k _ hk7).mono ?_
  rintro e w1 ⟨rfl, hown, hb1⟩
  have S1 : Hid (Src w1 (some ⟨w.heap.size, 0, none⟩) k (digs n k)) := by
    obtain ⟨A, c, e, h1, h2, _⟩ := own_row hown
    simp only [Value.slice.injEq] at e
    obtain ⟨rfl, _, rfl⟩ := e
    exact src_row h2 h1
  have W1 : Hid (Wr base Wb w1 bs) := HW.out.keep hb1.block
  have B1 : Hid (Below base w w1) := hb1.mono (by obtain ⟨hb, x, ht⟩ := wr_three HW.out; exact Nat.le_trans hb (Nat.le_of_lt (lt_of_block ht)))
  clear hown hb1 h0 h1 h2
  go_wp2_with fail
  refine (c34 base Wb bs _ k k (digs n k) w1 W1.out S1.out (fun h => by cases h) hl).mono ?_
  rintro e w2 ⟨rfl, hw2, hb2⟩
  have W2 := Lib.hid hw2
  have B2 := Lib.hid (B1.out.trans hb2)
  clear hw2 hb2
  go_wp2
  go_end0
  exact ⟨rfl, W2.out, B2.out⟩

/-- ahead of what it calls a Writer that failed answers nothing -/
theorem c26x (base Wb : Nat) (k n err : Int) (w : World) (he : err ≠ 0) (h : Wx base Wb w err) :
    Calls Try.prog 26 #[.pointer (some ⟨Wb, 0, none⟩), .int .i64 n, .int .i64 k] w fun e w' => e = .returned (.tuple #[]) ∧ w = w' := by
  obtain ⟨h0, h1, h2⟩ := three_cell h.2
  have hd : decide (err = 0) = false := decide_eq_false he
  clear h
  go_enter Try.func26, Try.ntmps26
  go_wp2
  refine bodyPost_ret (v := .tuple #[]) (by simp [results, Try.results26, go_sem]) rfl ?_
  exact ⟨rfl, rfl⟩
theorem c26n (base Wb : Nat) (k n : Int) (bs : List Int) (w : World) (h : Wr base Wb w bs) (hf : fitB n k = false) :
    Calls Try.prog 26 #[.pointer (some ⟨Wb, 0, none⟩), .int .i64 n, .int .i64 k] w fun e w' => e = .returned (.tuple #[]) ∧ Wx base Wb w' 1 ∧ Below base w w' := by
  obtain ⟨hb, x, ht⟩ := wr_three h
  obtain ⟨h0, h1, h2⟩ := three_cell ht
  have C := Lib.hid (c36 Wb _ _ _ 1 w ht)
  clear h ht
  by_cases k1 : k < 1
  · clear hf
    go_enter Try.func26, Try.ntmps26
    go_wp2_with (go_at_call 36; refine C.out.mono ?_; rintro e w' ⟨rfl, h3, h4⟩; have H3 := Lib.hid h3; have H4 := Lib.hid h4; clear h3 h4)
    refine bodyPost_ret (v := .tuple #[]) (by simp [results, Try.results26, go_sem]) rfl ?_
    exact ⟨rfl, ⟨hb, H3.out⟩, H4.out base hb⟩
  · by_cases k7 : 7 < k
    · clear hf
      go_enter Try.func26, Try.ntmps26
      go_wp2_with (go_at_call 36; refine C.out.mono ?_; rintro e w' ⟨rfl, h3, h4⟩; have H3 := Lib.hid h3; have H4 := Lib.hid h4; clear h3 h4)
      refine bodyPost_ret (v := .tuple #[]) (by simp [results, Try.results26, go_sem]) rfl ?_
      exact ⟨rfl, ⟨hb, H3.out⟩, H4.out base hb⟩
    · by_cases n0 : n < 0
      · clear hf
        go_enter Try.func26, Try.ntmps26
        go_wp2_with (go_at_call 36; refine C.out.mono ?_; rintro e w' ⟨rfl, h3, h4⟩; have H3 := Lib.hid h3; have H4 := Lib.hid h4; clear h3 h4)
        refine bodyPost_ret (v := .tuple #[]) (by simp [results, Try.results26, go_sem]) rfl ?_
        exact ⟨rfl, ⟨hb, H3.out⟩, H4.out base hb⟩
      · obtain ⟨K, rfl⟩ := Int.eq_ofNat_of_zero_le (show 0 ≤ k by omega)
        have hz : n / 2 ^ (8 * K) ≠ 0 := by
          intro hz
          have := (numOk n K (by omega)).1 hz
          have hft : fitB n K = true := by
            unfold fitB
            simp only [Bool.and_eq_true, decide_eq_true_eq, Int.toNat_natCast]
            omega
          rw [hft] at hf; cases hf
        have hz' : decide (n / 2 ^ (8 * K) = 0) = false := decide_eq_false hz
        have h8 : (8 * (K : Int)).toNat = 8 * K := by omega
        have hmin : min (8 * K) 64 = 8 * K := by omega
        clear hf
        go_enter Try.func26, Try.ntmps26
        go_wp2_with (go_at_call 36; refine C.out.mono ?_; rintro e w' ⟨rfl, h3, h4⟩; have H3 := Lib.hid h3; have H4 := Lib.hid h4; clear h3 h4)
        refine bodyPost_ret (v := .tuple #[]) (by simp [results, Try.results26, go_sem]) rfl ?_
        exact ⟨rfl, ⟨hb, H3.out⟩, H4.out base hb⟩
end Go.Proofs.Ytjkhbddnbpnmcaa
