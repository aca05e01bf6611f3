/-
  Pieces that are written: how one lies in memory, its bytes; the row of what a Writer has come to.
-/
import Derived.Test.YtjkhbddnbpnmcaaW8
namespace Go.Proofs.Ytjkhbddnbpnmcaa
open Go.RowKit
attribute [local go_sem ↓] Go.wp_at_zero Go.wp_at_succ

structure Prt where
  k : Int
  n : Int
  h : List Int
  A : Option Addr
  len : Nat
  cap : Nat
  b : List Int
/-- one of them lies in memory -/
structure PAt (w : World) (b o : Nat) (p : Prt) : Prop where
  c0 : w.cell? ⟨b, o, none⟩ = some (.int .i64 p.k)
  c1 : w.cell? ⟨b, o + 1, none⟩ = some (.int .i64 p.n)
  ch : ∀ j, j < 8 → w.cell? ⟨b, o + (2 + j), none⟩ = some (.int .u8 (p.h.getD j 0))
  cb : w.cell? ⟨b, o + 10, none⟩ = some (.slice p.A p.len p.cap)
  h8 : p.h.length = 8
  src : Src w p.A p.len p.b
  byt : Byt p.b
  le : p.len ≤ p.cap
  cm : p.cap ≤ 9223372036854775807
  cn : p.A = none → p.cap = 0
  hb : Byt p.h
theorem PAt.below {B : Nat} {w W : World} {b o : Nat} {p : Prt} (h : PAt w b o p) (hB : w.heap.size = B) (hb : Below B w W) : PAt W b o p := by
  have hlt : b < B := by rw [← hB]; exact World.block_lt_of_cell? w _ h.c0
  refine ⟨(hb.cell (p := ⟨b, o, none⟩) hlt).trans h.c0, (hb.cell (p := ⟨b, o + 1, none⟩) hlt).trans h.c1, fun j hj => (hb.cell (p := ⟨b, o + (2 + j), none⟩) hlt).trans (h.ch j hj), (hb.cell (p := ⟨b, o + 10, none⟩) hlt).trans h.cb, h.h8, h.src.keep (by rw [hB]; exact hb.block), h.byt, h.le, h.cm, h.cn, h.hb⟩

/-- the bytes of one -/
def enc (p : Prt) : List Int := if p.k = 8 then p.h else if p.k = 9 then listB p.b else digs p.n p.k.toNat
/-- may it be written -/
def okP (p : Prt) : Bool := decide (p.k = 8) || decide (p.k = 9) || fitB p.n p.k
/-- what a Writer has come to -/
inductive WS where
  | ok (bs : List Int)
  | er (e : Int)
inductive Step : WS → Prt → WS → Prop where
  | stay (e : Int) (p : Prt) : e ≠ 0 → Step (.er e) p (.er e)
  | more (bs : List Int) (p : Prt) : okP p = true → bs.length + (enc p).length ≤ 131072 → Step (.ok bs) p (.ok (bs ++ enc p))
  | bad (bs : List Int) (p : Prt) : okP p = false → Step (.ok bs) p (.er 1)
  | long (bs : List Int) (p : Prt) : p.k ≠ 8 → p.k ≠ 9 → fitB p.n p.k = true → bs.length ≤ 131072 → 131072 < bs.length + (enc p).length → Step (.ok bs) p (.er 3)
def WAt (base Wb : Nat) (w : World) : WS → Prop
  | .ok bs => Wr base Wb w bs
  | .er e => Wx base Wb w e

theorem s24 (base Wb : Nat) (p : Prt) (s s' : WS) (w : World) (hk : p.k = 8) (hh : p.h.length = 8) (hs : Step s p s') (hw : WAt base Wb w s) :
    Calls Try.prog 24 #[.pointer (some ⟨Wb, 0, none⟩), hval p.h] w fun e w' => e = .returned (.tuple #[]) ∧ WAt base Wb w' s' ∧ Below base w w' := by
  have he : enc p = p.h := by unfold enc; rw [if_pos hk]
  cases hs with
  | stay e _ h => exact c24x base Wb e p.h w h hw hh
  | more bs _ h1 h2 => rw [he]; rw [he, hh] at h2; exact c24 base Wb bs p.h w hw hh h2
  | bad bs _ h1 => unfold okP at h1; rw [hk] at h1; simp at h1
  | long bs _ h1 => exact absurd hk h1
theorem s25 (base Wb : Nat) (p : Prt) (s s' : WS) (w0 w : World) (hbase : w0.heap.size = base) (hB : Below base w0 w) (hk : p.k = 9) (hsrc : Src w0 p.A p.len p.b) (hcn : p.A = none → p.cap = 0) (hs : Step s p s') (hw : WAt base Wb w s) :
    Calls Try.prog 25 #[.pointer (some ⟨Wb, 0, none⟩), .slice p.A p.len p.cap] w fun e w' => e = .returned (.tuple #[]) ∧ WAt base Wb w' s' ∧ Below base w w' := by
  have he : enc p = listB p.b := by unfold enc; rw [if_neg (by omega), if_pos hk]
  cases hs with
  | stay e _ h => exact c25x base Wb e p.A p.len p.cap w h hw
  | more bs _ h1 h2 =>
    rw [he]; rw [he] at h2
    unfold listB at h2
    rw [List.length_append, digs_len, hsrc.1] at h2
    exact c25 base Wb bs p.b p.A p.len p.cap w0 w hbase hB hw hsrc hcn h2
  | bad bs _ h1 => unfold okP at h1; rw [hk] at h1; simp at h1
  | long bs _ _ h1 => exact absurd hk h1
theorem fit_parts {n k : Int} (h : fitB n k = true) : ∃ K : Nat, k = K ∧ 1 ≤ K ∧ K ≤ 7 ∧ 0 ≤ n ∧ n < 2 ^ (8 * K) := by
  unfold fitB at h
  simp only [Bool.and_eq_true, decide_eq_true_eq] at h
  obtain ⟨⟨⟨h1, h2⟩, h3⟩, h4⟩ := h
  obtain ⟨K, rfl⟩ := Int.eq_ofNat_of_zero_le (show 0 ≤ k by omega)
  exact ⟨K, rfl, by omega, by omega, h3, by simpa using h4⟩
theorem s26 (base Wb : Nat) (p : Prt) (s s' : WS) (w : World) (h8 : p.k ≠ 8) (h9 : p.k ≠ 9) (hs : Step s p s') (hw : WAt base Wb w s) :
    Calls Try.prog 26 #[.pointer (some ⟨Wb, 0, none⟩), .int .i64 p.n, .int .i64 p.k] w fun e w' => e = .returned (.tuple #[]) ∧ WAt base Wb w' s' ∧ Below base w w' := by
  have he : enc p = digs p.n p.k.toNat := by unfold enc; rw [if_neg h8, if_neg h9]
  have ho : okP p = fitB p.n p.k := by unfold okP; simp [h8, h9]
  have hB : Below base w w := Below.refl _ _
  cases hs with
  | stay e _ h => exact (c26x base Wb p.k p.n e w h hw).mono fun _ _ h => ⟨h.1, by rw [← h.2]; exact hw, by rw [← h.2]; exact hB⟩
  | more bs _ h1 h2 =>
    rw [ho] at h1
    obtain ⟨K, e, k1, k7, n0, n1⟩ := fit_parts h1
    rw [he] at h2 ⊢
    rw [e] at h2 ⊢
    rw [Int.toNat_natCast] at h2 ⊢
    rw [digs_len] at h2
    exact c26y base Wb K p.n bs w hw k1 k7 n0 n1 h2
  | bad bs _ h1 => rw [ho] at h1; exact c26n base Wb p.k p.n bs w hw h1
  | long bs _ _ _ h1 h2 h3 =>
    obtain ⟨K, e, k1, k7, n0, n1⟩ := fit_parts h1
    rw [he, e, Int.toNat_natCast, digs_len] at h3
    rw [e]
    exact c26g base Wb K p.n bs w hw k1 k7 n0 n1 h2 h3
end Go.Proofs.Ytjkhbddnbpnmcaa
