/-
  WireCuts: the function that reads as it was written: to its end where all is there, short where it was cut.
-/
import Derived.Test.YtjkhbddnbpnmcaaW22
namespace Go.Proofs.Ytjkhbddnbpnmcaa
open Go.RowKit

theorem enc_hash {p : Prt} (h : p.k = 8) : enc p = p.h := by unfold enc; rw [if_pos h]
theorem enc_list {p : Prt} (h : p.k = 9) : enc p = listB p.b := by unfold enc; rw [if_neg (by omega), if_pos h]
theorem enc_num {p : Prt} (h8 : p.k ≠ 8) (h9 : p.k ≠ 9) (ho : okP p = true) : ∃ K : Nat, p.k = K ∧ 1 ≤ K ∧ K ≤ 7 ∧ (enc p).length = K := by
  have hf : fitB p.n p.k = true := by unfold okP at ho; simpa [h8, h9] using ho
  obtain ⟨K, e, k1, k7, _⟩ := fit_parts hf
  exact ⟨K, e, k1, k7, by unfold enc; rw [if_neg h8, if_neg h9, e, Int.toNat_natCast, digs_len]⟩
theorem list_head (ys Z : List Int) (h : ys.length < 4294967296) : numL ((listB ys ++ Z).take 4) = ys.length := by
  unfold listB
  rw [List.append_assoc, List.take_left' (digs_len _ 4)]
  exact numL_digs _ 4 (by omega) (by rw [show (2 : Int) ^ (8 * 4) = 4294967296 by decide]; omega)
theorem list_len (ys : List Int) : (listB ys).length = 4 + ys.length := by unfold listB; rw [List.length_append, digs_len]

theorem r15 (Rb : Nat) (p : Prt) (Z : List Int) (w : World) (hk : p.k = 8) (h8 : p.h.length = 8) (h : Rdr w Rb (enc p ++ Z)) :
    Calls Try.prog 15 #[.pointer (some ⟨Rb, 0, none⟩)] w fun e w' => e = .returned (hval p.h) ∧ Rdr w' Rb Z ∧ w.grownBy w' (some Rb) := by
  have hel : (enc p).length = 8 := by rw [enc_hash hk]; exact h8
  have t := take_enc p Z 8 hel
  have c := c15y Rb _ w h (by rw [List.length_append]; omega)
  rw [t.1, t.2, enc_hash hk] at c
  exact c
theorem s15 (Rb m : Nat) (p : Prt) (X : List Int) (w : World) (hk : p.k = 8) (h8 : p.h.length = 8) (hm : m < (enc p).length) (h : Rdr w Rb ((enc p ++ X).take m)) :
    Calls Try.prog 15 #[.pointer (some ⟨Rb, 0, none⟩)] w fun e w' => Short e ∧ w.grownBy w' (some Rb) := by
  have hel : (enc p).length = 8 := by rw [enc_hash hk]; exact h8
  exact (c15n Rb _ w h (by rw [List.length_take]; omega)).mono fun _ _ h => ⟨h.1, h.2.2⟩
theorem r16 (Rb : Nat) (p : Prt) (Z : List Int) (w : World) (hk : p.k = 9) (hb : p.b.length < 4294967296) (h : Rdr w Rb (enc p ++ Z)) :
    Calls Try.prog 16 #[.pointer (some ⟨Rb, 0, none⟩)] w fun e w' => (∃ A c, e = .returned (.slice A p.b.length c)) ∧ Rdr w' Rb Z ∧ w.grownBy w' (some Rb) := by
  have hel : (enc p).length = 4 + p.b.length := by rw [enc_list hk]; exact list_len _
  have t := take_enc p Z (4 + p.b.length) hel
  have c := c16y Rb p.b.length _ w h (by rw [enc_list hk]; exact list_head _ _ hb) (by rw [List.length_append]; omega)
  rw [t.2] at c
  exact c.mono fun _ _ ⟨⟨A, c, e, _⟩, h2, h3⟩ => ⟨⟨A, c, e⟩, h2, h3⟩
theorem s16 (Rb m : Nat) (p : Prt) (X : List Int) (w : World) (hk : p.k = 9) (hb : p.b.length < 4294967296) (hm : m < (enc p).length) (h : Rdr w Rb ((enc p ++ X).take m)) :
    Calls Try.prog 16 #[.pointer (some ⟨Rb, 0, none⟩)] w fun e w' => Short e ∧ w.grownBy w' (some Rb) := by
  have hel : (enc p).length = 4 + p.b.length := by rw [enc_list hk]; exact list_len _
  have hl : ((enc p ++ X).take m).length = m := by rw [List.length_take, List.length_append]; omega
  refine (c16n Rb _ w h ?_).mono fun _ _ h => ⟨h.1, by rw [← h.2]; exact World.grownBy.refl _ _⟩
  rw [hl]
  rcases Nat.lt_or_ge m 4 with h4 | h4
  · exact .inl h4
  · right
    rw [List.take_take, Nat.min_eq_left h4, enc_list hk, list_head _ _ hb]
    omega
theorem r17 (Rb K : Nat) (p : Prt) (Z : List Int) (w : World) (k1 : 1 ≤ K) (k7 : K ≤ 7) (hel : (enc p).length = K) (h : Rdr w Rb (enc p ++ Z)) :
    Calls Try.prog 17 #[.pointer (some ⟨Rb, 0, none⟩), .int .i64 K] w fun e w' => (∃ n, e = .returned (.int .i64 n)) ∧ Rdr w' Rb Z ∧ w.grownBy w' (some Rb) := by
  have t := take_enc p Z K hel
  have c := c17y Rb K _ w h k1 k7 (by rw [List.length_append]; omega)
  rw [t.2] at c
  exact c.mono fun _ _ ⟨e, h2, h3⟩ => ⟨⟨_, e⟩, h2, h3⟩
theorem s17 (Rb K m : Nat) (p : Prt) (X : List Int) (w : World) (hel : (enc p).length = K) (hm : m < (enc p).length) (h : Rdr w Rb ((enc p ++ X).take m)) :
    Calls Try.prog 17 #[.pointer (some ⟨Rb, 0, none⟩), .int .i64 K] w fun e w' => Short e ∧ w.grownBy w' (some Rb) :=
  (c17n Rb K _ w h (.inr (.inr (by rw [List.length_take, List.length_append]; omega)))).mono fun _ _ h => ⟨h.1, by rw [← h.2]; exact World.grownBy.refl _ _⟩

/-- the old memory, the box of a slice, the Reader -/
structure Bx (w0 : World) (Rb Lb : Nat) (sl : Value) (lt : TypeId) (bs : List Int) (w : World) : Prop where
  below : Below w0.heap.size w0 w
  l : w.heap[Lb]? = some (.cells #[sl] lt (0, 0))
  rd : Rdr w Rb bs
theorem Bx.grown {w0 : World} {Rb Lb : Nat} {sl : Value} {lt : TypeId} {bs bs' : List Int} {w w' : World} (h : Bx w0 Rb Lb sl lt bs w) (h1 : w0.heap.size ≤ Lb) (h2 : Lb < Rb) (hg : w.grownBy w' (some Rb)) (hr : Rdr w' Rb bs') : Bx w0 Rb Lb sl lt bs' w' := by
  refine ⟨h.below.grown hg h.below.size (fun k e => ?_), (hg.block Lb (lt_of_block h.l) (by simp; omega)).trans h.l, hr⟩
  cases e
  omega

set_option maxHeartbeats 2000000 in
theorem c21y (w0 w : World) (Rb Lb : Nat) (A : Option Addr) (len cap : Nat) (P : Nat → Prt) (T : List Int) (hm : len ≤ 100) (f1 : w0.heap.size ≤ Lb) (f2 : Lb < Rb) (hp : Parts w0 A len P) (hok : ∀ i, i < len → okP (P i) = true) (hs : ∀ i, i < len → (P i).len < 4294967296)
    (hB : Bx w0 Rb Lb (.slice A len cap) 22 (encF P 0 len ++ T) w) :
    Calls Try.prog 21 #[.pointer (some ⟨Rb, 0, none⟩), .pointer (some ⟨Lb, 0, none⟩)] w fun e w' => e = .returned (.tuple #[]) ∧ Bx w0 Rb Lb (.slice A len cap) 22 T w' ∧ w.grownBy w' (some Rb) := by
  have HP := Lib.hid hp
  have HK := Lib.hid hok
  have HS := Lib.hid hs
  have HB := Lib.hid hB
  clear hp hok hs hB
  go_enter Try.func21, Try.ntmps21
  go_wp2
  go_loopw [3, 14, 22, 26] (fun i a b c wr => ∃ k : Nat, k ≤ len ∧ i = .int .i64 k ∧ Bx w0 Rb Lb (.slice A len cap) 22 (encF P k (len - k) ++ T) wr ∧ w.grownBy wr (some Rb)) (fun i _ _ _ _ => len - (intOf i).toNat)
  case atStart => exact ⟨0, Nat.zero_le _, rfl, HB.out, World.grownBy.refl _ _⟩
  case round =>
    obtain ⟨k, hk, rfl, hbox, hg⟩ := hrel
    have q0 := cell_of_one hbox.l
    have BX := Lib.hid hbox
    have GR := Lib.hid hg
    clear hbox hg
    by_cases hlt : k < len
    · obtain ⟨b, off, rfl, hP⟩ : ∃ b off, A = some ⟨b, off, none⟩ ∧ PAt w0 b (off + k * 11) (P k) := by
        rcases HP.out with h | ⟨b, off, e, h⟩
        · omega
        · exact ⟨b, off, e, h k hlt⟩
      have g0 := (hP.below rfl BX.out.below).c0
      have hb1 : (0 : Int) ≤ (k : Int) := by omega
      have hb2 : (k : Int) < (len : Int) := by omega
      have hrd := BX.out.rd
      rw [encF_step P hlt, List.append_assoc] at hrd
      have hbl : (P k).b.length < 4294967296 := by rw [hP.src.1]; exact HS.out k hlt
      by_cases k8 : (P k).k = 8
      · have C := Lib.hid (r15 Rb (P k) _ wr k8 hP.h8 hrd)
        rw [k8] at g0
        clear hP hrd hbl
        go_wp2_with (go_at_call 15; refine C.out.mono ?_; rintro e w1 ⟨rfl, h1, h2⟩; have D1 := Lib.hid (BX.out.grown f1 f2 h2 h1); have G1 := Lib.hid (GR.out.trans h2); clear h1 h2)
        go_roundw
        case rel => exact ⟨k + 1, by omega, by go_num, D1.out, G1.out⟩
        case measure => simp [intOf]; omega
      · by_cases k9 : (P k).k = 9
        · have C := Lib.hid (r16 Rb (P k) _ wr k9 hbl hrd)
          rw [k9] at g0
          clear hP hrd hbl
          go_wp2_with (go_at_call 16; refine C.out.mono ?_; rintro e w1 ⟨⟨A5, c5, rfl⟩, h1, h2⟩; have D1 := Lib.hid (BX.out.grown f1 f2 h2 h1); have G1 := Lib.hid (GR.out.trans h2); clear h1 h2)
          go_roundw
          case rel => exact ⟨k + 1, by omega, by go_num, D1.out, G1.out⟩
          case measure => simp [intOf]; omega
        · obtain ⟨K, hK, K1, K7, hel⟩ := enc_num k8 k9 (HK.out k hlt)
          have C := Lib.hid (r17 Rb K (P k) _ wr K1 K7 hel hrd)
          rw [hK] at g0 k8 k9
          clear hP hrd hbl hel hK
          go_wp2_with (go_at_call 17; refine C.out.mono ?_; rintro e w1 ⟨⟨n5, rfl⟩, h1, h2⟩; have D1 := Lib.hid (BX.out.grown f1 f2 h2 h1); have G1 := Lib.hid (GR.out.trans h2); clear h1 h2)
          go_roundw
          case rel => exact ⟨k + 1, by omega, by go_num, D1.out, G1.out⟩
          case measure => simp [intOf]; omega
    · obtain rfl : k = len := by omega
      have BE : Hid (Bx w0 Rb Lb (.slice A k cap) 22 T wr) := by
        have := BX.out
        rwa [Nat.sub_self] at this
      go_wp2
      go_end0
      exact ⟨rfl, BE.out, GR.out⟩

theorem cut_on {p : Prt} {X : List Int} {m : Nat} (h : (enc p).length ≤ m) : (enc p ++ X).take m = enc p ++ X.take (m - (enc p).length) := by
  rw [List.take_append, List.take_of_length_le h]
set_option maxHeartbeats 2000000 in
theorem c21s (w0 w : World) (Rb Lb : Nat) (A : Option Addr) (len cap : Nat) (P : Nat → Prt) (m0 : Nat) (hm : len ≤ 100) (f1 : w0.heap.size ≤ Lb) (f2 : Lb < Rb) (hp : Parts w0 A len P) (hok : ∀ i, i < len → okP (P i) = true) (hs : ∀ i, i < len → (P i).len < 4294967296)
    (hB : Bx w0 Rb Lb (.slice A len cap) 22 ((encF P 0 len).take m0) w) (hcut : m0 < (encF P 0 len).length) :
    Calls Try.prog 21 #[.pointer (some ⟨Rb, 0, none⟩), .pointer (some ⟨Lb, 0, none⟩)] w fun e w' => Short e ∧ w'.heap[Lb]? = some (.cells #[.slice A len cap] 22 (0, 0)) ∧ w.grownBy w' (some Rb) := by
  have HP := Lib.hid hp
  have HK := Lib.hid hok
  have HS := Lib.hid hs
  have HB := Lib.hid hB
  have HC := Lib.hid hcut
  clear hp hok hs hB hcut
  go_enter Try.func21, Try.ntmps21
  go_wp2
  go_loopw [3, 14, 22, 26] (fun i a b c wr => ∃ k m : Nat, k < len ∧ i = .int .i64 k ∧ Bx w0 Rb Lb (.slice A len cap) 22 ((encF P k (len - k)).take m) wr ∧ w.grownBy wr (some Rb) ∧ m < (encF P k (len - k)).length) (fun i _ _ _ _ => len - (intOf i).toNat)
  case atStart => exact ⟨0, m0, by
    rcases Nat.eq_zero_or_pos len with h | h
    · have := HC.out
      rw [h] at this
      simp [encF] at this
    · exact h, rfl, HB.out, World.grownBy.refl _ _, HC.out⟩
  case round =>
    obtain ⟨k, m, hlt, rfl, hbox, hg, hcut⟩ := hrel
    have q0 := cell_of_one hbox.l
    have BX := Lib.hid hbox
    have GR := Lib.hid hg
    clear hbox hg
    obtain ⟨b, off, rfl, hP⟩ : ∃ b off, A = some ⟨b, off, none⟩ ∧ PAt w0 b (off + k * 11) (P k) := by
      rcases HP.out with h | ⟨b, off, e, h⟩
      · omega
      · exact ⟨b, off, e, h k hlt⟩
    have g0 := (hP.below rfl BX.out.below).c0
    have hb1 : (0 : Int) ≤ (k : Int) := by omega
    have hb2 : (k : Int) < (len : Int) := by omega
    have hrd := BX.out.rd
    rw [encF_step P hlt] at hrd hcut
    rw [List.length_append] at hcut
    have hbl : (P k).b.length < 4294967296 := by rw [hP.src.1]; exact HS.out k hlt
    have LK : Hid (∀ w1, wr.grownBy w1 (some Rb) → w1.heap[Lb]? = some (.cells #[.slice (some ⟨b, off, none⟩) len cap] 22 (0, 0))) := fun w1 hg => (hg.block Lb (lt_of_block BX.out.l) (by simp; omega)).trans BX.out.l
    by_cases hcu : m < (enc (P k)).length
    · clear hcut
      by_cases k8 : (P k).k = 8
      · have C := Lib.hid (s15 Rb m (P k) _ wr k8 hP.h8 hcu hrd)
        rw [k8] at g0
        clear hP hrd hbl hcu
        go_wp2_with (go_at_call 15; refine C.out.mono ?_; rintro e w1 ⟨rfl, h2⟩)
        exact ⟨rfl, rfl, LK.out _ h2, GR.out.trans h2⟩
      · by_cases k9 : (P k).k = 9
        · have C := Lib.hid (s16 Rb m (P k) _ wr k9 hbl hcu hrd)
          rw [k9] at g0
          clear hP hrd hbl hcu
          go_wp2_with (go_at_call 16; refine C.out.mono ?_; rintro e w1 ⟨rfl, h2⟩)
          exact ⟨rfl, rfl, LK.out _ h2, GR.out.trans h2⟩
        · obtain ⟨K, hK, K1, K7, hel⟩ := enc_num k8 k9 (HK.out k hlt)
          have C := Lib.hid (s17 Rb K m (P k) _ wr hel hcu hrd)
          rw [hK] at g0 k8 k9
          clear hP hrd hbl hel hK hcu
          go_wp2_with (go_at_call 17; refine C.out.mono ?_; rintro e w1 ⟨rfl, h2⟩)
          exact ⟨rfl, rfl, LK.out _ h2, GR.out.trans h2⟩
    · rw [cut_on (by omega)] at hrd
      have hnx : m - (enc (P k)).length < (encF P (k + 1) (len - (k + 1))).length := by omega
      have hk1 : k + 1 < len := by
        rcases Nat.lt_or_ge (k + 1) len with h | h
        · exact h
        · rw [show len - (k + 1) = 0 by omega] at hnx
          simp [encF] at hnx
      have HN := Lib.hid hnx
      clear hcut hcu hnx
      obtain ⟨m1, hm1⟩ : ∃ m1, m - (enc (P k)).length = m1 := ⟨_, rfl⟩
      rw [hm1] at hrd HN
      clear hm1
      by_cases k8 : (P k).k = 8
      · have C := Lib.hid (r15 Rb (P k) _ wr k8 hP.h8 hrd)
        rw [k8] at g0
        clear hP hrd hbl
        go_wp2_with (go_at_call 15; refine C.out.mono ?_; rintro e w1 ⟨rfl, h1, h2⟩; have D1 := Lib.hid (BX.out.grown f1 f2 h2 h1); have G1 := Lib.hid (GR.out.trans h2); clear h1 h2)
        go_roundw
        case rel => exact ⟨k + 1, m1, hk1, by go_num, D1.out, G1.out, HN.out⟩
        case measure => simp [intOf]; omega
      · by_cases k9 : (P k).k = 9
        · have C := Lib.hid (r16 Rb (P k) _ wr k9 hbl hrd)
          rw [k9] at g0
          clear hP hrd hbl
          go_wp2_with (go_at_call 16; refine C.out.mono ?_; rintro e w1 ⟨⟨A5, c5, rfl⟩, h1, h2⟩; have D1 := Lib.hid (BX.out.grown f1 f2 h2 h1); have G1 := Lib.hid (GR.out.trans h2); clear h1 h2)
          go_roundw
          case rel => exact ⟨k + 1, m1, hk1, by go_num, D1.out, G1.out, HN.out⟩
          case measure => simp [intOf]; omega
        · obtain ⟨K, hK, K1, K7, hel⟩ := enc_num k8 k9 (HK.out k hlt)
          have C := Lib.hid (r17 Rb K (P k) _ wr K1 K7 hel hrd)
          rw [hK] at g0 k8 k9
          clear hP hrd hbl hel hK
          go_wp2_with (go_at_call 17; refine C.out.mono ?_; rintro e w1 ⟨⟨n5, rfl⟩, h1, h2⟩; have D1 := Lib.hid (BX.out.grown f1 f2 h2 h1); have G1 := Lib.hid (GR.out.trans h2); clear h1 h2)
          go_roundw
          case rel => exact ⟨k + 1, m1, hk1, by go_num, D1.out, G1.out, HN.out⟩
          case measure => simp [intOf]; omega
end Go.Proofs.Ytjkhbddnbpnmcaa
