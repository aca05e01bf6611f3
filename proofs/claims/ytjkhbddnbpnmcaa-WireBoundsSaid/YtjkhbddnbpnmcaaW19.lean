/-
  The walk of WireWrites.
-/
import Derived.Test.YtjkhbddnbpnmcaaW18
namespace Go.Proofs.Ytjkhbddnbpnmcaa
open Go.RowKit

theorem conv {w : World} {A : Option Addr} {n : Nat} (c : Nat) {bs : List Int} (hl : bs.length = n) (hr : Row w A bs) : (convert 25 9 (.slice A n c)).run Try.prog w = .ok (.string (strOfNums bs)) w := by
  rcases hr with rfl | ⟨b, off, rfl, hc⟩
  · obtain rfl : n = 0 := by simpa using hl.symm
    cases A with
    | none =>
      rw [run_convert_bytes_nil w 25 5 Try.underlying25 Try.underlying5 0 c 9 Try.underlying9]
      simp [strOfNums]; rfl
    | some ad =>
      have hld : (loadCells ad 0).run Try.prog w = .ok #[] w := by
        have := run_loadCells_list (P := Try.prog) w ad [] (fun j v h => by cases h)
        simpa using this
      rw [run_convert_bytes_string w 25 9 5 _ 0 c Try.underlying25 Try.underlying5 Try.underlying9, run_bytesToString w ad 0 c [] (by simpa using hld)]
      simp [strOfNums]; rfl
  · exact run_convert_bytes_arg w 25 5 Try.underlying25 Try.underlying5 b off n c bs hl (fun i hi => hc i (by omega)) 9 Try.underlying9

def encN (P : Nat → Prt) : Nat → List Int
  | 0 => []
  | k + 1 => encN P k ++ enc (P k)
theorem enc_len (p : Prt) (ho : okP p = true) (h8 : p.h.length = 8) (hb : p.b.length = p.len) : (enc p).length ≤ 12 + p.len := by
  unfold enc
  by_cases k8 : p.k = 8
  · rw [if_pos k8]; omega
  · rw [if_neg k8]
    by_cases k9 : p.k = 9
    · rw [if_pos k9]; unfold listB; rw [List.length_append, digs_len]; omega
    · rw [if_neg k9, digs_len]
      have : fitB p.n p.k = true := by unfold okP at ho; simpa [k8, k9] using ho
      obtain ⟨K, e, _, h7, _⟩ := fit_parts this
      rw [e, Int.toNat_natCast]; omega
theorem encN_len (P : Nat → Prt) (k : Nat) (ho : ∀ i, i < k → okP (P i) = true) (h8 : ∀ i, i < k → (P i).h.length = 8) (hb : ∀ i, i < k → (P i).b.length = (P i).len) : (encN P k).length ≤ tot P k := by
  induction k with
  | zero => simp [encN, tot]
  | succ k ih =>
    have h1 := ih (fun i hi => ho i (by omega)) (fun i hi => h8 i (by omega)) (fun i hi => hb i (by omega))
    have h2 := enc_len (P k) (ho k (by omega)) (h8 k (by omega)) (hb k (by omega))
    rw [encN, tot, List.length_append]; omega
theorem tot_mono (P : Nat → Prt) {a b : Nat} (h : a ≤ b) : tot P a ≤ tot P b := by
  induction b with
  | zero => obtain rfl : a = 0 := by omega
            exact Nat.le_refl _
  | succ b ih =>
    rcases Nat.lt_or_ge a (b + 1) with h1 | h1
    · have := ih (by omega); rw [tot]; omega
    · obtain rfl : a = b + 1 := by omega
      exact Nat.le_refl _
/-- all pieces may be written -/
theorem tr_all (P : Nat → Prt) (len : Nat) (ho : ∀ i, i < len → okP (P i) = true) (h8 : ∀ i, i < len → (P i).h.length = 8) (hb : ∀ i, i < len → (P i).b.length = (P i).len) (ht : tot P len ≤ 20000) : Tr len P (fun i => .ok (encN P i)) := by
  refine ⟨rfl, fun i hi => ?_⟩
  have h1 := encN_len P (i + 1) (fun j hj => ho j (by omega)) (fun j hj => h8 j (by omega)) (fun j hj => hb j (by omega))
  have h2 := tot_mono P (show i + 1 ≤ len by omega)
  rw [encN, List.length_append] at h1
  exact Step.more (encN P i) (P i) (ho i hi) (by omega)
/-- the one at j may not -/
theorem tr_bad (P : Nat → Prt) (len j : Nat) (_hj : j < len) (ho : ∀ i, i < j → okP (P i) = true) (hbad : okP (P j) = false) (h8 : ∀ i, i < len → (P i).h.length = 8) (hb : ∀ i, i < len → (P i).b.length = (P i).len) (ht : tot P len ≤ 20000) :
    Tr len P (fun i => if i ≤ j then .ok (encN P i) else .er 1) := by
  refine ⟨rfl, fun i hi => ?_⟩
  show Step (if i ≤ j then _ else _) (P i) (if i + 1 ≤ j then _ else _)
  rcases Nat.lt_trichotomy i j with h | h | h
  · rw [if_pos (by omega), if_pos (by omega)]
    have h1 := encN_len P (i + 1) (fun q hq => ho q (by omega)) (fun q hq => h8 q (by omega)) (fun q hq => hb q (by omega))
    have h2 := tot_mono P (show i + 1 ≤ len by omega)
    rw [encN, List.length_append] at h1
    exact Step.more (encN P i) (P i) (ho i h) (by omega)
  · subst h
    rw [if_pos (Nat.le_refl _), if_neg (by omega)]
    exact Step.bad _ _ hbad
  · rw [if_neg (by omega), if_neg (by omega)]
    exact Step.stay 1 _ (by decide)
theorem Parts.below {w W : World} {A : Option Addr} {len : Nat} {P : Nat → Prt} (h : Parts w A len P) (hb : Below w.heap.size w W) : Parts W A len P := by
  rcases h with h | ⟨b, off, e, h⟩
  · exact .inl h
  · exact .inr ⟨b, off, e, fun i hi => (h i hi).below rfl hb⟩
theorem Parts.h8 {w : World} {A : Option Addr} {len : Nat} {P : Nat → Prt} (h : Parts w A len P) : (∀ i, i < len → (P i).h.length = 8) ∧ (∀ i, i < len → (P i).b.length = (P i).len) ∧ ∀ i, i < len → Byt (P i).b := by
  rcases h with h | ⟨b, off, e, h⟩
  · exact ⟨fun i hi => by omega, fun i hi => by omega, fun i hi => by omega⟩
  · exact ⟨fun i hi => (h i hi).h8, fun i hi => (h i hi).src.1, fun i hi => (h i hi).byt⟩

/-- how far the loop has come -/
def Came (P : Nat → Prt) (k : Nat) (u : Bool) (bs : List Int) : Prop :=
  (u = true ∧ (∀ i, i < k → okP (P i) = true) ∧ bs = encN P k) ∨ (u = false ∧ ∃ j, k = j + 1 ∧ (∀ i, i < j → okP (P i) = true) ∧ okP (P j) = false)
theorem pval_eq {w : World} {b o : Nat} {p : Prt} (h : PAt w b o p) : pval p = .agg #[.int .i64 p.k, .int .i64 p.n, .int .u8 (p.h.getD 0 0), .int .u8 (p.h.getD 1 0), .int .u8 (p.h.getD 2 0), .int .u8 (p.h.getD 3 0), .int .u8 (p.h.getD 4 0), .int .u8 (p.h.getD 5 0), .int .u8 (p.h.getD 6 0), .int .u8 (p.h.getD 7 0), .slice p.A p.len p.cap] := by
  obtain ⟨x0, x1, x2, x3, x4, x5, x6, x7, hl⟩ := len8 h.h8
  unfold pval
  rw [hl]; rfl

set_option maxHeartbeats 2000000 in
theorem walkWrites (A : Option Addr) (len cap : Nat) (P : Nat → Prt) (w : World) (hm : len ≤ 140737488355328) (hp : Parts w A len P) (hs : ∀ i, i < len → (P i).len ≤ 140737488355000) :
    Calls Try.prog 3 #[.slice A len cap] w fun e w' => e = .returned (.bool true) ∧ Below w.heap.size w w' := by
  have HP := Lib.hid hp
  have HS := Lib.hid hs
  clear hp hs
  cases hf : fewB len P with
  | false =>
    have HF := Lib.hid hf
    clear hf
    go_enter Try.func3, Try.ntmps3
    go_wp2_with fail
    refine (c8 w).mono ?_
    rintro e w1 ⟨rfl, hb1⟩
    have B1 := Lib.hid hb1
    clear hb1
    have C := c9 A len cap P w1 hm (HP.out.below B1.out) (fun i hi => by have := HS.out i hi; omega)
    rw [HF.out] at C
    have C' := Lib.hid C
    clear C
    go_wp2_with (go_at_call 9; refine C'.out.mono ?_; rintro e w' ⟨rfl, rfl⟩)
    go_ret
    exact ⟨rfl, B1.out⟩
  | true =>
    have h100 : len ≤ 100 := by unfold fewB at hf; simp at hf; exact hf.1
    have hT : tot P len ≤ 20000 := by unfold fewB at hf; simp at hf; exact hf.2
    have HT := Lib.hid hT
    have HF := Lib.hid hf
    clear hf hT
    obtain ⟨i0, hi, hz0, hz1, hz2⟩ := info_parts info5
    have HI := Lib.hid hi
    have HI0 := Lib.hid hz0
    have HI1 := Lib.hid hz1
    have HI2 := Lib.hid hz2
    clear hi hz0 hz1 hz2
    go_enter Try.func3, Try.ntmps3
    go_wp2_with fail
    refine (c8 w).mono ?_
    rintro e w1 ⟨rfl, hb1⟩
    have B1 := Lib.hid hb1
    clear hb1
    have C := c9 A len cap P w1 hm (HP.out.below B1.out) (fun i hi => by have := HS.out i hi; omega)
    rw [HF.out] at C
    have C' := Lib.hid C
    clear C
    go_wp2_with (go_at_call 9; refine C'.out.mono ?_; rintro e w' ⟨rfl, rfl⟩)
    clear C' HF
    go_loopw [3, 4, 5, 6, 23] (fun v u i b t wr => ∃ (k : Nat) (ub : Bool) (bs : List Int) (A1 : Option Addr) (c1 : Nat), k ≤ len ∧ i = .int .i64 k ∧ u = .bool ub ∧ v = .slice A1 bs.length c1 ∧ Came P k ub bs ∧ wr.ownsRow w1.heap.size 5 1 (.slice A1 bs.length c1) bs.length (bvals bs) ∧ bs.length ≤ 20000 ∧ Below w1.heap.size w1 wr) (fun _ _ i _ _ _ => len - (intOf i).toNat)
    case atStart => exact ⟨0, true, [], none, 0, Nat.zero_le _, rfl, rfl, rfl, .inl ⟨rfl, fun i hi => by omega, rfl⟩, own_nil _ _, by simp, Below.refl _ _⟩
    case round =>
      obtain ⟨k, ub, bs, A1, c1, hk, rfl, rfl, rfl, hcame, hown, hlen, hbel⟩ := hrel
      have OW := Lib.hid hown
      have BL := Lib.hid hbel
      have BW : Hid (Below w.heap.size w wr) := B1.out.trans (hbel.mono B1.out.size)
      have Z1 : Hid (w1.heap.size ≤ wr.heap.size) := hbel.size
      clear hown hbel
      rcases hcame with ⟨rfl, hok, rfl⟩ | ⟨rfl, j, rfl, hok, hbad⟩
      · by_cases hlt : k < len
        · obtain ⟨b, off, rfl, hP⟩ : ∃ b off, A = some ⟨b, off, none⟩ ∧ PAt wr b (off + k * 11) (P k) := by
            rcases HP.out.below BW.out with h | ⟨b, off, e, h⟩
            · omega
            · exact ⟨b, off, e, h k hlt⟩
          have g0 := hP.c0
          have g1 := hP.c1
          have gb := hP.cb
          have gh := hP.ch
          have h0 := gh 0 (by decide)
          have h1 := gh 1 (by decide)
          have h2 := gh 2 (by decide)
          have h3 := gh 3 (by decide)
          have h4 := gh 4 (by decide)
          have h5 := gh 5 (by decide)
          have h6 := gh 6 (by decide)
          have h7 := gh 7 (by decide)
          simp only [Nat.reduceAdd] at h0 h1 h2 h3 h4 h5 h6 h7
          have C := c10 (P k) wr hP.h8 hP.src hP.cn (HS.out k hlt)
          rw [pval_eq hP] at C
          have hb1 : (0 : Int) ≤ (k : Int) := by omega
          have hb2 : (k : Int) < (len : Int) := by omega
          have HK := Lib.hid hok
          have EL : Hid (okP (P k) = true → (encN P k ++ enc (P k)).length ≤ 20000) := fun ho => by
            obtain ⟨q8, qb, _⟩ := HP.out.h8
            have h1 := encN_len P (k + 1) (fun i hi => by
              rcases Nat.lt_or_ge i k with h | h
              · exact HK.out i h
              · obtain rfl : i = k := by omega
                exact ho) (fun i hi => q8 i (by omega)) (fun i hi => qb i (by omega))
            have h2 := tot_mono P (show k + 1 ≤ len by omega)
            have h3 := HT.out
            rw [encN] at h1
            omega
          clear hok hP gh
          cases ho : okP (P k) with
          | true =>
            have C' : Hid (Calls Try.prog 10 _ wr fun e w' => (∃ A c, e = .returned (.tuple #[.slice A (enc (P k)).length c, .bool true]) ∧ Row w' A (enc (P k)) ∧ (A = none → c = 0)) ∧ Below wr.heap.size wr w') :=
              C.mono fun e w' h => ⟨by have := h.1; unfold PlainEnd at this; rwa [if_pos ho] at this, h.2⟩
            have HO := Lib.hid ho
            have EL2 := Lib.hid (EL.out ho)
            clear C EL ho
            generalize (P k).h.getD 0 0 = x0 at *
            generalize (P k).h.getD 1 0 = x1 at *
            generalize (P k).h.getD 2 0 = x2 at *
            generalize (P k).h.getD 3 0 = x3 at *
            generalize (P k).h.getD 4 0 = x4 at *
            generalize (P k).h.getD 5 0 = x5 at *
            generalize (P k).h.getD 6 0 = x6 at *
            generalize (P k).h.getD 7 0 = x7 at *
            generalize (P k).k = pk at *
            generalize (P k).n = pn at *
            generalize (P k).A = pa at *
            generalize (P k).len = pl at *
            generalize (P k).cap = pc at *
            have LE : Hid ((encN P k).length + (enc (P k)).length ≤ 20000) := by have := EL2.out; rw [List.length_append] at this; exact this
            go_wp2_with (first
              | (go_at_call 10; refine C'.out.mono ?_; rintro e w2 ⟨⟨A2, c2, rfl, hr2, hn2⟩, hb2⟩; have R2 := Lib.hid (src_row rfl hr2); have N2 := Lib.hid hn2; have B2 := Lib.hid hb2; have O2 := Lib.hid (own_keep OW.out (fun q hq => hb2.block q (own_lt OW.out q hq))); clear hr2 hn2 hb2)
              | (at_builtin; refine wpList_app rfl (.tmp 31) (.tmp 32) 25 rfl i0 Try.underlying25 HI.out HI0.out HI1.out HI2.out w1.heap.size (encN P k).length (.slice A1 (encN P k).length c1) (encN P k) rfl O2.out A2 (enc (P k)).length c2 (enc (P k)) rfl R2.out N2.out (by have := LE.out; unfold maxLen; omega) (by have := LE.out; omega) (Nat.le_trans Z1.out B2.out.size) ?_; intro A3 c3 w3 hown3 hg3 _; have O3 := Lib.hid hown3; have B3 : Hid (Below w1.heap.size w1 w3) := (BL.out.trans (B2.out.mono Z1.out)).grown hg3 (Nat.le_trans Z1.out B2.out.size) (own_base O2.out); clear hown3 hg3))
            go_roundw
            case rel => exact ⟨k + 1, true, encN P k ++ enc (P k), A3, c3, by omega, by go_num, rfl, by rw [List.length_append], .inl ⟨rfl, fun i hi => (by
                rcases Nat.lt_or_ge i k with h | h
                · exact HK.out i h
                · obtain rfl : i = k := by omega
                  exact HO.out), rfl⟩, by rw [List.length_append]; exact O3.out, EL2.out, B3.out⟩
            case measure => simp [intOf]; omega
          | false =>
            have C' : Hid (Calls Try.prog 10 _ wr fun e w' => e = .returned (.tuple #[.slice none 0 0, .bool false]) ∧ Below wr.heap.size wr w') :=
              C.mono fun e w' h => ⟨by have := h.1; unfold PlainEnd at this; rwa [if_neg (by rw [ho]; decide)] at this, h.2⟩
            have HO := Lib.hid ho
            clear C EL ho
            generalize (P k).h.getD 0 0 = x0 at *
            generalize (P k).h.getD 1 0 = x1 at *
            generalize (P k).h.getD 2 0 = x2 at *
            generalize (P k).h.getD 3 0 = x3 at *
            generalize (P k).h.getD 4 0 = x4 at *
            generalize (P k).h.getD 5 0 = x5 at *
            generalize (P k).h.getD 6 0 = x6 at *
            generalize (P k).h.getD 7 0 = x7 at *
            generalize (P k).k = pk at *
            generalize (P k).n = pn at *
            generalize (P k).A = pa at *
            generalize (P k).len = pl at *
            generalize (P k).cap = pc at *
            go_wp2_with (first
              | (go_at_call 10; refine C'.out.mono ?_; rintro e w2 ⟨rfl, hb2⟩; have B2 := Lib.hid hb2; have O2 := Lib.hid (own_keep OW.out (fun q hq => hb2.block q (own_lt OW.out q hq))); clear hb2)
              | (at_builtin; refine wpList_app rfl (.tmp 31) (.tmp 32) 25 rfl i0 Try.underlying25 HI.out HI0.out HI1.out HI2.out w1.heap.size (encN P k).length (.slice A1 (encN P k).length c1) (encN P k) rfl O2.out none 0 0 [] rfl ⟨rfl, .inl rfl⟩ (fun _ => rfl) (by unfold maxLen; omega) (by omega) (Nat.le_trans Z1.out B2.out.size) ?_; intro A3 c3 w3 hown3 hg3 _; have O3 := Lib.hid hown3; have B3 : Hid (Below w1.heap.size w1 w3) := (BL.out.trans (B2.out.mono Z1.out)).grown hg3 (Nat.le_trans Z1.out B2.out.size) (own_base O2.out); clear hown3 hg3))
            go_roundw
            case rel => exact ⟨k + 1, false, encN P k, A3, c3, by omega, by go_num, rfl, rfl, .inr ⟨rfl, k, rfl, HK.out, HO.out⟩, by have := O3.out; rw [Nat.add_zero, List.append_nil] at this; exact this, hlen, B3.out⟩
            case measure => simp [intOf]; omega
        · obtain rfl : k = len := by omega
          obtain ⟨q8, qb, _⟩ := HP.out.h8
          have C := c11 A k cap P _ wr h100 (HP.out.below BW.out) (tr_all P k hok q8 qb HT.out)
          have C' : Hid (Calls Try.prog 11 _ wr fun e w' => (∃ A c, e = .returned (.tuple #[.slice A (encN P k).length c, .int .i64 0]) ∧ Row w' A (encN P k) ∧ (encN P k).length ≤ c ∧ (A = none → c = 0)) ∧ Below wr.heap.size wr w') := C
          have HK := Lib.hid hok
          clear C hok
          go_wp2_with fail
          refine C'.out.mono ?_
          rintro e w2 ⟨⟨A2, c2, rfl, hr2, _, _⟩, hb2⟩
          have cv1 := conv c2 rfl hr2
          have cv2 := conv c1 rfl (row_own (own_keep OW.out (fun q hq => hb2.block q (own_lt OW.out q hq)))).1
          have B2 := Lib.hid (BW.out.trans (hb2.mono BW.out.size))
          clear hr2 hb2
          go_wp2
          go_ret
          exact ⟨rfl, B2.out⟩
      · obtain ⟨q8, qb, _⟩ := HP.out.h8
        have C := c11 A len cap P _ wr h100 (HP.out.below BW.out) (tr_bad P len j (by omega) hok hbad q8 qb HT.out)
        rw [if_neg (by omega)] at C
        have C' : Hid (Calls Try.prog 11 _ wr fun e w' => e = .returned (.tuple #[.slice none 0 0, .int .i64 1]) ∧ Below wr.heap.size wr w') := C
        clear C hok hbad
        by_cases hlt : ((j + 1 : Nat) : Int) < (len : Int)
        · go_wp2_with (go_at_call 11; refine C'.out.mono ?_; rintro e w2 ⟨rfl, hb2⟩; have B2 := Lib.hid (BW.out.trans (hb2.mono BW.out.size)); clear hb2)
          go_ret
          exact ⟨rfl, B2.out⟩
        · go_wp2_with (go_at_call 11; refine C'.out.mono ?_; rintro e w2 ⟨rfl, hb2⟩; have B2 := Lib.hid (BW.out.trans (hb2.mono BW.out.size)); clear hb2)
          go_ret
          exact ⟨rfl, B2.out⟩
end Go.Proofs.Ytjkhbddnbpnmcaa
