/-
  The law's own 'write': a row of pieces is written.
-/
import Derived.Test.YtjkhbddnbpnmcaaW9
namespace Go.Proofs.Ytjkhbddnbpnmcaa
open Go.RowKit
attribute [local go_sem ↓] Go.wp_at_zero Go.wp_at_succ

/-- the pieces of a slice -/
def Parts (w : World) (A : Option Addr) (len : Nat) (P : Nat → Prt) : Prop := len = 0 ∨ ∃ b off, A = some ⟨b, off, none⟩ ∧ ∀ i, i < len → PAt w b (off + i * 11) (P i)
/-- how the Writer comes along the pieces -/
structure Tr (len : Nat) (P : Nat → Prt) (S : Nat → WS) : Prop where
  zero : S 0 = .ok []
  step : ∀ i, i < len → Step (S i) (P i) (S (i + 1))
theorem Tr.bound {len : Nat} {P : Nat → Prt} {S : Nat → WS} (h : Tr len P S) {bs : List Int} (he : S len = .ok bs) : bs.length ≤ 131072 := by
  cases len with
  | zero => rw [h.zero] at he; cases he; simp
  | succ n =>
    have hs := h.step n (by omega)
    rw [he] at hs
    generalize S n = s at hs
    cases hs with
    | more bs _ h1 h2 => rw [List.length_append]; exact h2
def Res (w' : World) (e : Ending) : WS → Prop
  | .ok bs => ∃ A c, e = .returned (.tuple #[.slice A bs.length c, .int .i64 0]) ∧ Row w' A bs ∧ bs.length ≤ c ∧ (A = none → c = 0)
  | .er err => e = .returned (.tuple #[.slice none 0 0, .int .i64 err])
theorem s27 (base Wb : Nat) (s : WS) (w : World) (hw : WAt base Wb w s) (hl : ∀ bs, s = .ok bs → bs.length ≤ 131072) :
    Calls Try.prog 27 #[.pointer (some ⟨Wb, 0, none⟩)] w fun e w' => Res w' e s ∧ Below base w w' := by
  cases s with
  | ok bs => exact c27 base Wb bs w hw (hl bs rfl)
  | er err => exact c27x base Wb err w hw

set_option maxHeartbeats 2000000 in
theorem c11 (A : Option Addr) (len cap : Nat) (P : Nat → Prt) (S : Nat → WS) (w : World) (hm : len ≤ 100) (hp : Parts w A len P) (ht : Tr len P S) :
    Calls Try.prog 11 #[.slice A len cap] w fun e w' => Res w' e (S len) ∧ Below w.heap.size w w' := by
  have HT := Lib.hid ht
  have HP := Lib.hid hp
  have W0 : Hid (WAt w.heap.size w.heap.size (w.alloc (Obj.cells #[.pointer none, .int .i64 0, .int .i64 0] 50)) (S 0)) := by
    rw [ht.zero]
    exact .inl ⟨rfl, Nat.le_refl _, heap_alloc_new w _⟩
  have B0 : Hid (Below w.heap.size w (w.alloc (Obj.cells #[.pointer none, .int .i64 0, .int .i64 0] 50))) := (Below.refl _ _).alloc (Nat.le_refl _) _
  clear hp ht
  obtain ⟨base, hbase⟩ : ∃ base, w.heap.size = base := ⟨_, rfl⟩
  have HZ := Lib.hid hbase
  go_enter Try.func11, Try.ntmps11
  go_wp2
  rw [hbase] at W0 B0
  clear hbase
  go_loopw [5, 16, 28, 36] (fun i a b c wr => ∃ k : Nat, k ≤ len ∧ i = .int .i64 k ∧ WAt base base wr (S k) ∧ Below base w wr) (fun i _ _ _ _ => len - (intOf i).toNat)
  case atStart => exact ⟨0, Nat.zero_le _, rfl, W0.out, B0.out⟩
  case round =>
    obtain ⟨k, hk, rfl, hat, hbel⟩ := hrel
    have AT := Lib.hid hat
    have BL := Lib.hid hbel
    clear hat hbel
    by_cases hlt : k < len
    · obtain ⟨b, off, rfl, hP⟩ : ∃ b off, A = some ⟨b, off, none⟩ ∧ PAt w b (off + k * 11) (P k) := by
        rcases HP.out with h | ⟨b, off, e, h⟩
        · omega
        · exact ⟨b, off, e, h k hlt⟩
      have hPr := hP.below HZ.out BL.out
      have g0 := hPr.c0
      have g1 := hPr.c1
      have gb := hPr.cb
      have gh := hPr.ch
      have ST := Lib.hid (HT.out.step k hlt)
      have PW := Lib.hid hP
      clear hPr hP
      have hb1 : (0 : Int) ≤ (k : Int) := by omega
      have hb2 : (k : Int) < (len : Int) := by omega
      by_cases k8 : (P k).k = 8
      · have h0 := gh 0 (by decide)
        have h1 := gh 1 (by decide)
        have h2 := gh 2 (by decide)
        have h3 := gh 3 (by decide)
        have h4 := gh 4 (by decide)
        have h5 := gh 5 (by decide)
        have h6 := gh 6 (by decide)
        have h7 := gh 7 (by decide)
        have hv : hval (P k).h = .agg #[.int .u8 ((P k).h.getD 0 0), .int .u8 ((P k).h.getD 1 0), .int .u8 ((P k).h.getD 2 0), .int .u8 ((P k).h.getD 3 0), .int .u8 ((P k).h.getD 4 0), .int .u8 ((P k).h.getD 5 0), .int .u8 ((P k).h.getD 6 0), .int .u8 ((P k).h.getD 7 0)] := by
          obtain ⟨a, b, c, d, e, f, g, i, hl⟩ := len8 PW.out.h8
          rw [hl]; rfl
        have C := Lib.hid (s24 base base (P k) _ _ wr k8 PW.out.h8 ST.out AT.out)
        rw [hv] at C
        rw [k8] at g0
        clear gh g1 gb k8 hv
        simp only [Nat.reduceAdd] at h0 h1 h2 h3 h4 h5 h6 h7
        generalize (P k).h.getD 0 0 = x0 at *
        generalize (P k).h.getD 1 0 = x1 at *
        generalize (P k).h.getD 2 0 = x2 at *
        generalize (P k).h.getD 3 0 = x3 at *
        generalize (P k).h.getD 4 0 = x4 at *
        generalize (P k).h.getD 5 0 = x5 at *
        generalize (P k).h.getD 6 0 = x6 at *
        generalize (P k).h.getD 7 0 = x7 at *
        go_wp2_with (go_at_call 24; refine C.out.mono ?_; rintro e w' ⟨rfl, h3, h4⟩; have H3 := Lib.hid h3; have H4 := Lib.hid h4; clear h3 h4)
        go_roundw
        case rel => exact ⟨k + 1, by omega, by go_num, H3.out, BL.out.trans H4.out⟩
        case measure => simp [intOf]; omega
      · by_cases k9 : (P k).k = 9
        · have C := Lib.hid (s25 base base (P k) _ _ w wr HZ.out BL.out k9 PW.out.src PW.out.cn ST.out AT.out)
          rw [k9] at g0
          clear gh g1 k8 k9
          generalize (P k).A = pa at *
          generalize (P k).len = pl at *
          generalize (P k).cap = pc at *
          go_wp2_with (go_at_call 25; refine C.out.mono ?_; rintro e w' ⟨rfl, h3, h4⟩; have H3 := Lib.hid h3; have H4 := Lib.hid h4; clear h3 h4)
          go_roundw
          case rel => exact ⟨k + 1, by omega, by go_num, H3.out, BL.out.trans H4.out⟩
          case measure => simp [intOf]; omega
        · have d8 : decide ((P k).k = 8) = false := decide_eq_false k8
          have d9 : decide ((P k).k = 9) = false := decide_eq_false k9
          have C := Lib.hid (fun W h => s26 base base (P k) _ _ W k8 k9 ST.out h)
          have A2 : Hid (WAt base base wr.drew (S k)) := by
            have := AT.out
            show WAt base base wr.drew (S k)
            cases hs : S k with
            | ok bs => rw [hs] at this; exact Wr.keep this (fun _ _ => rfl)
            | er e => rw [hs] at this; exact Wx.keep this (fun _ _ => rfl)
          clear gh gb
          generalize (P k).k = pk at *
          generalize (P k).n = pn at *
          go_wp2
          go_still_tail 10, (by kernel_rfl)
          go_wp2_with (go_at_call 26; refine (C.out _ A2.out).mono ?_; rintro e w' ⟨rfl, h3, h4⟩; have H3 := Lib.hid h3; have H4 := Lib.hid h4; clear h3 h4)
          go_roundw
          case rel => exact ⟨k + 1, by omega, by go_num, H3.out, BL.out.drew.trans H4.out⟩
          case measure => simp [intOf]; omega
    · obtain rfl : k = len := by omega
      have HB := Lib.hid (fun bs h => HT.out.bound (bs := bs) h)
      cases hs : S k with
      | ok bs =>
        rw [hs] at AT HB
        have C := Lib.hid (c27 base base bs wr AT.out (HB.out bs rfl))
        have HS := Lib.hid hs
        clear hs
        go_wp2_with (go_at_call 27; refine C.out.mono ?_; rintro e w' ⟨⟨A', c', rfl, h3, h5⟩, h4⟩; have H3 := Lib.hid h3; have H4 := Lib.hid h4; have H5 := Lib.hid h5; clear h3 h4 h5)
        go_ret2
        exact ⟨by rw [HS.out]; exact ⟨A', c', rfl, H3.out, H5.out⟩, by rw [HZ.out]; exact BL.out.trans H4.out⟩
      | er err =>
        rw [hs] at AT
        have C := Lib.hid (c27x base base err wr AT.out)
        have HS := Lib.hid hs
        clear hs
        go_wp2_with (go_at_call 27; refine C.out.mono ?_; rintro e w' ⟨rfl, h4⟩; have H4 := Lib.hid h4; clear h4)
        go_ret2
        exact ⟨by rw [HS.out] <;> rfl, by rw [HZ.out]; exact BL.out.trans H4.out⟩
end Go.Proofs.Ytjkhbddnbpnmcaa
