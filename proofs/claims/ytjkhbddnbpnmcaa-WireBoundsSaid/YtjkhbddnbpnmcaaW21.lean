/-
  WireBack: the function that reads what was written.
-/
import Derived.Test.YtjkhbddnbpnmcaaW20
namespace Go.Proofs.Ytjkhbddnbpnmcaa
open Go.RowKit
attribute [local go_sem ↓] Go.wp_at_zero Go.wp_at_succ

theorem eq29 (x0 x1 x2 x3 x4 x5 x6 x7 : Int) (w : World) : (Op.equalIn 10000 29 (.agg #[.int .u8 x0, .int .u8 x1, .int .u8 x2, .int .u8 x3, .int .u8 x4, .int .u8 x5, .int .u8 x6, .int .u8 x7]) (.agg #[.int .u8 x0, .int .u8 x1, .int .u8 x2, .int .u8 x3, .int .u8 x4, .int .u8 x5, .int .u8 x6, .int .u8 x7])).run Try.prog w = .ok true w := by
  have u5 := Try.underlying5
  have a5 := Try.isAgg5
  have z5 := Try.sizeOf5
  rw [show (10000 : Nat) = 9999 + 1 from rfl, Op.equalIn]
  simp only [Sem.run_bind, run_underlying Try.underlying29, Result.andThen_ok]
  simp only [Std.Legacy.Range.forIn_eq_forIn_range', Std.Legacy.Range.size, Nat.sub_zero, Nat.add_sub_cancel, Nat.div_one, List.range'_succ, List.range'_zero, List.forIn_cons, List.forIn_nil]
  go_simp

/-- the conversion of what a call has just answered: it stands behind the call, not ahead of it -/
def opC : Op := .convert 25 9 (.tmp 72)
theorem opC_eq : opC = .convert 25 9 (.tmp 72) := rfl
attribute [local go_sem] opC_eq
theorem take_enc (p : Prt) (X : List Int) (n : Nat) (h : (enc p).length = n) : (enc p ++ X).take n = enc p ∧ (enc p ++ X).drop n = X := by
  subst h
  exact ⟨List.take_left, List.drop_left⟩

set_option maxRecDepth 100000 in
set_option maxHeartbeats 4000000 in
theorem c13 (w0 w : World) (Rb Lb Sb : Nat) (A : Option Addr) (len cap : Nat) (P : Nat → Prt) (hm : len ≤ 100) (hF : Far w0 Rb Lb Sb) (hp : Parts w0 A len P) (hok : ∀ i, i < len → okP (P i) = true) (hlen : (encN P len).length ≤ 20000)
    (hB : Box w0 Rb Lb Sb (.slice A len cap) 22 (.bool true) 4 (encF P 0 len) w) :
    Calls Try.prog 13 #[.pointer (some ⟨Rb, 0, none⟩), .pointer (some ⟨Lb, 0, none⟩), .pointer (some ⟨Sb, 0, none⟩)] w fun e w' => e = .returned (.tuple #[]) ∧ Box w0 Rb Lb Sb (.slice A len cap) 22 (.bool true) 4 [] w' ∧ St Rb Sb w w' := by
  have HF := Lib.hid hF
  have HP := Lib.hid hp
  have HK := Lib.hid hok
  have HL := Lib.hid hlen
  have HB := Lib.hid hB
  clear hF hp hok hlen hB
  have heq := fun (x0 x1 x2 x3 x4 x5 x6 x7 : Int) (w : World) => eq29 x0 x1 x2 x3 x4 x5 x6 x7 w
  go_enter Try.func13, Try.ntmps13
  go_wp2
  go_loopw [4, 5, 18, 47, 67] (fun i a b c d wr => ∃ k : Nat, k ≤ len ∧ i = .int .i64 k ∧ Box w0 Rb Lb Sb (.slice A len cap) 22 (.bool true) 4 (encF P k (len - k)) wr ∧ St Rb Sb w wr) (fun i _ _ _ _ _ => len - (intOf i).toNat)
  case atStart => exact ⟨0, Nat.zero_le _, rfl, HB.out, St.refl _ _ _⟩
  case round =>
    obtain ⟨k, hk, rfl, hbox, hst⟩ := hrel
    have q0 := cell_of_one hbox.l
    have BX := Lib.hid hbox
    have ST := Lib.hid hst
    clear hbox hst
    by_cases hlt : k < len
    · obtain ⟨b, off, rfl, hP⟩ : ∃ b off, A = some ⟨b, off, none⟩ ∧ PAt w0 b (off + k * 11) (P k) := by
        rcases HP.out with h | ⟨b, off, e, h⟩
        · omega
        · exact ⟨b, off, e, h k hlt⟩
      have hPr := hP.below rfl BX.out.below
      have PW := Lib.hid hP
      have g0 := hPr.c0
      have g1 := hPr.c1
      have gb := hPr.cb
      have gh := hPr.ch
      clear hP hPr
      have hb1 : (0 : Int) ≤ (k : Int) := by omega
      have hb2 : (k : Int) < (len : Int) := by omega
      have C := Lib.hid (c14 Rb _ wr BX.out.rd)
      have ES := Lib.hid (encF_step P hlt)
      have OK := Lib.hid (HK.out k hlt)
      obtain ⟨X, hX⟩ : ∃ X, encF P (k + 1) (len - (k + 1)) = X := ⟨_, rfl⟩
      rw [hX] at ES
      have HX := Lib.hid hX
      clear hX
      have hTL : (enc (P k)).length + X.length ≤ 20000 := by
        have h1 := encF_cat P k (len - k)
        rw [ES.out, show k + (len - k) = len by omega] at h1
        have h2 := HL.out
        rw [← h1] at h2
        simp only [List.length_append] at h2
        omega
      rw [ES.out, List.length_append] at C
      have D0 := Lib.hid BX.out.drew
      have s0 := cell_of_one D0.out.v
      have hne1 : ¬ Lb = Sb := HF.out.lv
      have hne2 : ¬ b = Sb := by
        have h1 := HF.out.v
        have h2 := World.block_lt_of_cell? w0 _ PW.out.c0
        have h3 : b < w0.heap.size := h2
        omega
      by_cases k8 : (P k).k = 8
      · have he : enc (P k) = (P k).h := by unfold enc; rw [if_pos k8]
        have hel : (enc (P k)).length = 8 := by rw [he]; exact PW.out.h8
        have TK := Lib.hid (take_enc (P k) X 8 hel)
        have R1 : Hid (Rdr wr.drew Rb (enc (P k) ++ X)) := by rw [← ES.out]; exact BX.out.drew.rd
        have CN := c15y Rb _ wr.drew R1.out (by rw [List.length_append, hel]; omega)
        have hv : hval (P k).h = .agg #[.int .u8 ((P k).h.getD 0 0), .int .u8 ((P k).h.getD 1 0), .int .u8 ((P k).h.getD 2 0), .int .u8 ((P k).h.getD 3 0), .int .u8 ((P k).h.getD 4 0), .int .u8 ((P k).h.getD 5 0), .int .u8 ((P k).h.getD 6 0), .int .u8 ((P k).h.getD 7 0)] := by
          obtain ⟨a, b, c, d, e, f, g, i, hl⟩ := len8 PW.out.h8
          rw [hl]; rfl
        rw [TK.out.1, TK.out.2, he, hv] at CN
        have CN' := Lib.hid CN
        rw [hel] at C hTL
        rw [k8] at g0
        have PC : Hid (∀ w', Below w0.heap.size w0 w' → ∀ j, j < 8 → w'.cell? ⟨b, off + k * 11 + (2 + j), none⟩ = some (.int .u8 ((P k).h.getD j 0))) := fun w' hb j hj => (PW.out.below rfl hb).ch j hj
        obtain ⟨x0, e0⟩ : ∃ x, (P k).h.getD 0 0 = x := ⟨_, rfl⟩
        obtain ⟨x1, e1⟩ : ∃ x, (P k).h.getD 1 0 = x := ⟨_, rfl⟩
        obtain ⟨x2, e2⟩ : ∃ x, (P k).h.getD 2 0 = x := ⟨_, rfl⟩
        obtain ⟨x3, e3⟩ : ∃ x, (P k).h.getD 3 0 = x := ⟨_, rfl⟩
        obtain ⟨x4, e4⟩ : ∃ x, (P k).h.getD 4 0 = x := ⟨_, rfl⟩
        obtain ⟨x5, e5⟩ : ∃ x, (P k).h.getD 5 0 = x := ⟨_, rfl⟩
        obtain ⟨x6, e6⟩ : ∃ x, (P k).h.getD 6 0 = x := ⟨_, rfl⟩
        obtain ⟨x7, e7⟩ : ∃ x, (P k).h.getD 7 0 = x := ⟨_, rfl⟩
        rw [e0, e1, e2, e3, e4, e5, e6, e7] at CN'
        have PQ : Hid (∀ w', Below w0.heap.size w0 w' → w'.cell? ⟨b, off + k * 11 + 2, none⟩ = some (.int .u8 x0) ∧ w'.cell? ⟨b, off + k * 11 + 3, none⟩ = some (.int .u8 x1) ∧ w'.cell? ⟨b, off + k * 11 + 4, none⟩ = some (.int .u8 x2) ∧ w'.cell? ⟨b, off + k * 11 + 5, none⟩ = some (.int .u8 x3) ∧ w'.cell? ⟨b, off + k * 11 + 6, none⟩ = some (.int .u8 x4) ∧ w'.cell? ⟨b, off + k * 11 + 7, none⟩ = some (.int .u8 x5) ∧ w'.cell? ⟨b, off + k * 11 + 8, none⟩ = some (.int .u8 x6) ∧ w'.cell? ⟨b, off + k * 11 + 9, none⟩ = some (.int .u8 x7)) := fun w' hb =>
          ⟨e0 ▸ PC.out w' hb 0 (by decide), e1 ▸ PC.out w' hb 1 (by decide), e2 ▸ PC.out w' hb 2 (by decide), e3 ▸ PC.out w' hb 3 (by decide), e4 ▸ PC.out w' hb 4 (by decide), e5 ▸ PC.out w' hb 5 (by decide), e6 ▸ PC.out w' hb 6 (by decide), e7 ▸ PC.out w' hb 7 (by decide)⟩
        clear gh gb g1 CN he hel hv PC e0 e1 e2 e3 e4 e5 e6 e7
        obtain ⟨xl, hxl⟩ : ∃ xl, X.length = xl := ⟨_, rfl⟩
        have HXL := Lib.hid hxl
        rw [hxl] at C hTL
        clear hxl
        go_wp2_with (go_at_call 14; refine C.out.mono ?_; rintro e w' ⟨rfl, rfl⟩)
        have hw1 : (8 : Int) + xl - 8 = xl := by omega
        have hwr : IntKind.i64.wrap (xl : Int) = xl := by rw [IntKind.wrap_i64]; omega
        have hbq : ((xl : Int) == (xl : Int)) = true := by simp
        obtain ⟨p0, p1, p2, p3, p4, p5, p6, p7⟩ := PQ.out _ D0.out.below
        go_region_held3 (fun w' => w'.cell? ⟨Sb, 0, none⟩ = some (.bool true) ∧ w'.cell? ⟨Lb, 0, none⟩ = some (.slice (some ⟨b, off, none⟩) len cap) ∧ w'.cell? ⟨b, off + k * 11 + 2, none⟩ = some (.int .u8 x0) ∧ w'.cell? ⟨b, off + k * 11 + 3, none⟩ = some (.int .u8 x1) ∧ w'.cell? ⟨b, off + k * 11 + 4, none⟩ = some (.int .u8 x2) ∧ w'.cell? ⟨b, off + k * 11 + 5, none⟩ = some (.int .u8 x3) ∧ w'.cell? ⟨b, off + k * 11 + 6, none⟩ = some (.int .u8 x4) ∧ w'.cell? ⟨b, off + k * 11 + 7, none⟩ = some (.int .u8 x5) ∧ w'.cell? ⟨b, off + k * 11 + 8, none⟩ = some (.int .u8 x6) ∧ w'.cell? ⟨b, off + k * 11 + 9, none⟩ = some (.int .u8 x7)) (first | exact K8.out | exact K9.out | go_keep)
          (first
            | (go_at_call 15; refine CN'.out.mono ?_; rintro e w1 ⟨rfl, h1, h2⟩; have D1 := Lib.hid (D0.out.grown HF.out h2 h1); have G1 := Lib.hid h2; have C14 := c14 Rb X _ D1.out.rd; rw [HXL.out] at C14; have C15 := Lib.hid C14; clear C14; have t4 := free_of_one D1.out.v; have D2 := Lib.hid (D1.out.set (.bool true) HF.out (fun z h => by cases h)); have K8 := Lib.hid (And.intro (cell_of_one D1.out.v) (And.intro (cell_of_one D1.out.l) (PQ.out _ D1.out.below))); have K9 := Lib.hid (And.intro (cell_of_one D2.out.v) (And.intro (cell_of_one D2.out.l) (PQ.out _ D2.out.below))); clear h1 h2)
            | (go_at_call 14; refine C15.out.mono ?_; rintro e w' ⟨rfl, rfl⟩))
        all_goals
          rename_i hHeld
          clear hHeld hw1 hwr hbq hne1 hne2 s0 t4 q0 g0 k8 K8 K9 p0 p1 p2 p3 p4 p5 p6 p7
          go_wp2
          go_roundw
          case rel => exact ⟨k + 1, by omega, by go_num, by rw [HX.out]; exact D2.out, ST.out.trans ((St.of_grown (w := wr) ⟨G1.out.os, G1.out.tape, G1.out.output, G1.out.size, G1.out.block⟩).trans (St.of_var (grown_set _)))⟩
          case measure => simp [intOf]; omega
      · by_cases k9 : (P k).k = 9
        · have he : enc (P k) = listB (P k).b := by unfold enc; rw [if_neg k8, if_pos k9]
          have hbl : (P k).b.length = (P k).len := PW.out.src.1
          have hel : (enc (P k)).length = 4 + (P k).len := by rw [he]; unfold listB; rw [List.length_append, digs_len, hbl]
          have TK := Lib.hid (take_enc (P k) X (4 + (P k).len) hel)
          have R1 : Hid (Rdr wr.drew Rb (enc (P k) ++ X)) := by rw [← ES.out]; exact BX.out.drew.rd
          have h4 : (enc (P k) ++ X).take 4 = digs (P k).len 4 := by
            rw [he]; unfold listB
            rw [List.append_assoc, hbl]
            exact (List.take_left' (digs_len _ 4))
          have hnum : numL ((enc (P k) ++ X).take 4) = (P k).len := by
            rw [h4]
            exact numL_digs _ 4 (by omega) (by rw [show (2 : Int) ^ (8 * 4) = 4294967296 by decide]; omega)
          have hbody : ((enc (P k) ++ X).drop 4).take (P k).len = (P k).b := by
            rw [he]; unfold listB
            rw [List.append_assoc, List.drop_left' (digs_len _ 4)]
            exact List.take_left' hbl
          have CN := c16y Rb (P k).len _ wr.drew R1.out hnum (by rw [List.length_append, hel]; omega)
          rw [hbody, TK.out.2] at CN
          have CN' := Lib.hid CN
          rw [hel] at C hTL
          rw [k9] at g0
          have PQ : Hid (∀ w', Below w0.heap.size w0 w' → w'.cell? ⟨b, off + k * 11 + 10, none⟩ = some (.slice (P k).A (P k).len (P k).cap) ∧ (convert 25 9 (.slice (P k).A (P k).len (P k).cap)).run Try.prog w' = .ok (.string (strOfNums (P k).b)) w') := fun w' hb => by
            have q := PW.out.below rfl hb
            refine ⟨q.cb, ?_⟩
            rcases q.src.2 with h0 | ⟨b', off', e, hc⟩
            · exact conv _ q.src.1 (.inl (List.eq_nil_of_length_eq_zero (by rw [q.src.1]; exact h0)))
            · exact conv _ q.src.1 (.inr ⟨b', off', e, fun i hi => hc i (by rw [← q.src.1]; exact hi)⟩)
          have HBL := Lib.hid hbl
          obtain ⟨ys, hys⟩ : ∃ ys, (P k).b = ys := ⟨_, rfl⟩
          obtain ⟨pa, hpa⟩ : ∃ x, (P k).A = x := ⟨_, rfl⟩
          obtain ⟨pl, hpl⟩ : ∃ x, (P k).len = x := ⟨_, rfl⟩
          obtain ⟨pc, hpc⟩ : ∃ x, (P k).cap = x := ⟨_, rfl⟩
          rw [hys, hpl] at CN' HBL
          rw [hys, hpa, hpl, hpc] at PQ
          rw [hpl] at C hTL
          clear gh gb g1 CN he hel hnum hbody hbl h4 hys hpa hpl hpc
          obtain ⟨xl, hxl⟩ : ∃ xl, X.length = xl := ⟨_, rfl⟩
          have HXL := Lib.hid hxl
          rw [hxl] at C hTL
          clear hxl
          go_wp2_with (go_at_call 14; refine C.out.mono ?_; rintro e w' ⟨rfl, rfl⟩)
          have hw0 : IntKind.i64.wrap ((4 : Int) + pl + xl - 4) = (pl : Int) + xl := by rw [IntKind.wrap_i64]; omega
          have hw1 : IntKind.i64.wrap ((pl : Int) + xl - pl) = xl := by rw [IntKind.wrap_i64]; omega
          have hwr : IntKind.i64.wrap (xl : Int) = xl := by rw [IntKind.wrap_i64]; omega
          have hbq : ((xl : Int) == (xl : Int)) = true := by simp
          obtain ⟨p0, p1⟩ := PQ.out _ D0.out.below
          rw [← opC_eq]
          go_region_held3 (fun w' => w'.cell? ⟨Sb, 0, none⟩ = some (.bool true) ∧ w'.cell? ⟨Lb, 0, none⟩ = some (.slice (some ⟨b, off, none⟩) len cap) ∧ w'.cell? ⟨b, off + k * 11 + 10, none⟩ = some (.slice pa pl pc) ∧ (convert 25 9 (.slice pa pl pc)).run Try.prog w' = .ok (.string (strOfNums ys)) w') (first | exact K8.out | exact K9.out | go_keep)
            (first
              | (go_at_call 16; refine CN'.out.mono ?_; rintro e w1 ⟨⟨A5, c5, rfl, h5, _, _⟩, h1, h2⟩; have D1 := Lib.hid (D0.out.grown HF.out h2 h1); have G1 := Lib.hid h2; have C14 := c14 Rb X _ D1.out.rd; rw [HXL.out] at C14; have C15 := Lib.hid C14; clear C14; have t4 := free_of_one D1.out.v; have t5 := conv c5 HBL.out h5; have D2 := Lib.hid (D1.out.set (.bool true) HF.out (fun z h => by cases h)); have K8 := Lib.hid (And.intro (cell_of_one D1.out.v) (And.intro (cell_of_one D1.out.l) (PQ.out _ D1.out.below))); have K9 := Lib.hid (And.intro (cell_of_one D2.out.v) (And.intro (cell_of_one D2.out.l) (PQ.out _ D2.out.below))); clear h1 h2 h5)
              | (go_at_call 14; refine C15.out.mono ?_; rintro e w' ⟨rfl, rfl⟩))
          all_goals
            rename_i hHeld
            clear hHeld hw0 hw1 hwr hbq hne1 hne2 s0 t4 t5 q0 g0 k8 k9 K8 K9 p0 p1
            go_wp2
            go_roundw
            case rel => exact ⟨k + 1, by omega, by go_num, by rw [HX.out]; exact D2.out, ST.out.trans ((St.of_grown (w := wr) ⟨G1.out.os, G1.out.tape, G1.out.output, G1.out.size, G1.out.block⟩).trans (St.of_var (grown_set _)))⟩
            case measure => simp [intOf]; omega
        · have d8 : ¬ (P k).k = 8 := k8
          have hfit : fitB (P k).n (P k).k = true := by have := OK.out; unfold okP at this; simpa [k8, k9] using this
          obtain ⟨K, hK, K1, K7, n0, n1⟩ := fit_parts hfit
          have he : enc (P k) = digs (P k).n K := by unfold enc; rw [if_neg k8, if_neg k9, hK, Int.toNat_natCast]
          have hel : (enc (P k)).length = K := by rw [he, digs_len]
          have TK := Lib.hid (take_enc (P k) X K hel)
          have hnum : numL ((enc (P k) ++ X).take K) = (P k).n := by rw [TK.out.1, he]; exact numL_digs _ K n0 n1
          have R1 : Hid (Rdr wr.drew Rb (enc (P k) ++ X)) := by rw [← ES.out]; exact BX.out.drew.rd
          have CN := c17y Rb K _ wr.drew R1.out K1 K7 (by rw [List.length_append, hel]; omega)
          rw [hnum, TK.out.2] at CN
          have CN' := Lib.hid CN
          rw [hel] at C hTL
          have HN1 : (P k).k = (K : Int) := hK
          rw [hK] at g0 k8 k9
          clear gh gb hnum CN hfit he hel d8 n0 n1
          obtain ⟨pn, hpn⟩ : ∃ pn, (P k).n = pn := ⟨_, rfl⟩
          have HPN := Lib.hid hpn
          rw [hpn] at g1 CN'
          obtain ⟨xl, hxl⟩ : ∃ xl, X.length = xl := ⟨_, rfl⟩
          have HXL := Lib.hid hxl
          rw [hxl] at C hTL
          clear hpn hxl
          go_wp2_with (go_at_call 14; refine C.out.mono ?_; rintro e w' ⟨rfl, rfl⟩)
          have hw1 : (K : Int) + xl - K = xl := by omega
          have hwr : IntKind.i64.wrap (xl : Int) = xl := by rw [IntKind.wrap_i64]; omega
          have hbq : ((xl : Int) == (xl : Int)) = true := by simp
          go_region_held3 (fun w' => w'.cell? ⟨Sb, 0, none⟩ = some (.bool true) ∧ w'.cell? ⟨Lb, 0, none⟩ = some (.slice (some ⟨b, off, none⟩) len cap) ∧ w'.cell? ⟨b, off + k * 11, none⟩ = some (.int .i64 K) ∧ w'.cell? ⟨b, off + k * 11 + 1, none⟩ = some (.int .i64 pn)) (first | go_keep | exact K9.out)
            (first
              | (go_at_call 17; refine CN'.out.mono ?_; rintro e w1 ⟨rfl, h1, h2⟩; have D1 := Lib.hid (D0.out.grown HF.out h2 h1); have G1 := Lib.hid h2; have t0 := cell_of_one D1.out.v; have t1 := cell_of_one D1.out.l; have t2 := (PW.out.below rfl D1.out.below).c0; have t3 := (PW.out.below rfl D1.out.below).c1; rw [HN1] at t2; rw [HPN.out] at t3; have C14 := c14 Rb X _ D1.out.rd; rw [HXL.out] at C14; have C15 := Lib.hid C14; clear C14; have t4 := free_of_one D1.out.v; have D2 := Lib.hid (D1.out.set (.bool true) HF.out (fun z h => by cases h)); have K9 : Hid ((w1.setCell ⟨Sb, 0, none⟩ (.bool true)).cell? ⟨Sb, 0, none⟩ = some (.bool true) ∧ (w1.setCell ⟨Sb, 0, none⟩ (.bool true)).cell? ⟨Lb, 0, none⟩ = some (.slice (some ⟨b, off, none⟩) len cap) ∧ (w1.setCell ⟨Sb, 0, none⟩ (.bool true)).cell? ⟨b, off + k * 11, none⟩ = some (.int .i64 K) ∧ (w1.setCell ⟨Sb, 0, none⟩ (.bool true)).cell? ⟨b, off + k * 11 + 1, none⟩ = some (.int .i64 pn)) := ⟨cell_of_one D2.out.v, cell_of_one D2.out.l, HN1 ▸ (PW.out.below rfl D2.out.below).c0, HPN.out ▸ (PW.out.below rfl D2.out.below).c1⟩; clear h1 h2)
              | (go_at_call 14; refine C15.out.mono ?_; rintro e w' ⟨rfl, rfl⟩))
          all_goals
            rename_i hHeld
            clear hHeld hw1 hwr hbq HN1 hK hne1 hne2 s0 t0 t1 t2 t3 t4 q0 g0 g1 k8 k9 K9
            go_wp2
            go_roundw
            case rel => exact ⟨k + 1, by omega, by go_num, by rw [HX.out]; exact D2.out, ST.out.trans ((St.of_grown (w := wr) ⟨G1.out.os, G1.out.tape, G1.out.output, G1.out.size, G1.out.block⟩).trans (St.of_var (grown_set _)))⟩
            case measure => simp [intOf]; omega
    · obtain rfl : k = len := by omega
      have BE : Hid (Box w0 Rb Lb Sb (.slice A k cap) 22 (.bool true) 4 [] wr) := by
        have := BX.out
        rwa [Nat.sub_self] at this
      go_wp2
      go_end0
      exact ⟨rfl, BE.out, ST.out⟩
end Go.Proofs.Ytjkhbddnbpnmcaa
