/-
  Joined: R40.
-/
import Derived.Test.YtmcmdpbdipgahaaJQ
/-
  RegistryPlays: the walk.
-/
namespace Go.Proofs.Ytmcmdpbdipgahaa
open Go.RowKit Go.Maps
set_option maxRecDepth 100000
theorem cx10 {w : World} {b : Nat} {x : Sm} {v : Value} {T : TypeId} (h : BL w b ((sdV x).set 9 v) T) : w.cell? ⟨b, 10, none⟩ = some (.int .i64 x.s.at') := by
  have := range_of h 10 _ rfl
  rwa [Nat.zero_add] at this
theorem cx41 {w : World} {b : Nat} {x : Sm} {v u : Value} {T : TypeId} (h : BL w b (((sdV x).set 9 v).set 10 u) T) : w.cell? ⟨b, 41, none⟩ = some (.slice x.U.A x.U.n x.U.c) := by
  have := range_of h 41 _ rfl
  rwa [Nat.zero_add] at this
theorem nums3 (dn dm : Int) : ∃ (u1 u2 : Nat) (u3 : Int) (k1 : Nat) (k2 : Int), bits .and .i64 dn 3 = (u1 : Int) ∧ bits .and .i64 dm 3 = (u2 : Int) ∧ bits .and .i64 dn 255 = u3 ∧ wrap64 (1 + (u1 : Int)) = (k1 : Int) ∧ wrap64 (1 + (u2 : Int)) = k2 ∧ k1 ≤ 8 := by
  refine ⟨(dn % 4).toNat, (dm % 4).toNat, _, 1 + (dn % 4).toNat, 1 + ((dm % 4).toNat : Int), by rw [and3]; omega, by rw [and3]; omega, rfl, ?_, ?_, by omega⟩
  · unfold wrap64; omega
  · unfold wrap64; omega
theorem dd_fw' {w : World} {b : Nat} {dd dn dm s a k : Int} {o : List Int} {T : TypeId} (h : BL w b (ddV ⟨dd, dn, dm, ⟨s, a, o, k⟩⟩) T) : w.rangeAt b 3 (fwV s a o k) := dd_fw h
theorem szF33 : (Try.prog.info? 33).map (·.size) = some 11 := by kernel_rfl
attribute [local irreducible] sdV MapV z0 fnS cat rootS mayP creC fwC con0 cM fwV fdV ddV wpQuiet sumN ceC
set_option maxHeartbeats 32000000 in
theorem q3 (A0 : Option Addr) (n0 cap0 : Nat) (D : Nat → Dd13) (w : World) (hd : DRow13 w A0 n0 D) (hok : ∀ i, (D i).ok) :
    Calls Try.prog 3 #[.slice A0 n0 cap0] w fun e w' => e = .returned (.bool true) ∧ Below w.heap.size w w' := by
  obtain ⟨N, hN⟩ : ∃ N, w.heap.size = N := ⟨_, rfl⟩
  have HN := Lib.hid hN
  have HD := Lib.hid hd
  have HOK := Lib.hid hok
  have AW := Lib.hid rAwake
  have CM : Hid (∀ (n : Nat) (need : Int) (w : World), Keys w → n ≤ 8 → Calls Try.prog 11 #[.int .i64 n, .int .i64 need] w fun e w' => ∃ A c, e = .returned (.agg #[.int .i64 4, .int .i64 2, .int .i64 need, .slice A n c]) ∧ Src w' A (8 * n) (cat rootS n) ∧ n ≤ c ∧ c ≤ maxLen ∧ Below w.heap.size w w' ∧ ∀ g o, A = some ⟨g, o, none⟩ → w.heap.size ≤ g) := Lib.hid fun n need w hk hn => kMade2 n need w hk hn
  rw [hN]
  clear hd hok
  go_enter Try.func3, Try.ntmps3
  go_upto_region 3 with (first
    | (go_at_call 9; refine (AW.out _).mono ?_; clear AW; rintro e w1 ⟨rfl, hb⟩; have B1 := Lib.hid hb; clear hb)
    | fail)
  have BW1 : Hid (Below N w w1) := Lib.hid (by rw [← HN.out]; exact B1.out)
  by_cases h40 : 40 < n0
  · have h40' : decide ((40 : Int) < (n0 : Int)) = true := decide_eq_true (by omega)
    go_wp2
    go_ret
    exact ⟨rfl, BW1.out⟩
  have H40 := Lib.hid h40
  have h40' : decide ((40 : Int) < (n0 : Int)) = false := decide_eq_false (by omega)
  clear h40
  go_upto_region 8 with (first
    | (go_at_call 10; refine (rNew _).mono ?_; rintro e w2 ⟨rfl, r1, r2⟩; have R2 := Lib.hid r1; have B2 := Lib.hid r2; clear r1 r2)
    | fail)
  obtain ⟨S, hS⟩ : ∃ S, w1.heap.size = S := ⟨_, rfl⟩
  rw [hS] at R2 B2 ⊢
  have HS : Hid (N ≤ S) := Lib.hid (by rw [← hS, ← HN.out]; exact B1.out.size)
  have J2 := Lib.hid (DJ.start hS BW1.out HS.out R2.out B2.out)
  generalize w2.alloc (Obj.cells #[Value.slice none 0 0] 29) = w3 at *
  generalize w2.heap.size = M at *
  clear hS R2 B2 B1 BW1 h40' HS
  have hz35 : ∀ w, (zeroValue 35).run Try.prog w = .ok (.agg (ddV dd0).toArray) w := z35
  go_wp2
  go_loopw [3, 5] (fun sv iv wr => ∃ (t S : Nat) (m A : _) (n c : Nat) (cs : List Con), t ≤ n0 ∧ sv = .pointer (some ⟨S, 0, none⟩) ∧ iv = .int .i64 t ∧ DJ N w wr S m M A n c cs cs ∧ goodL cs) (fun _ iv _ => n0 - (intOf iv).toNat)
  case atStart => exact ⟨0, S, none, none, 0, 0, [], Nat.zero_le _, rfl, rfl, J2.out, fun c hc => by cases hc⟩
  case round =>
    clear J2
    obtain ⟨t, S, m, A, n, c, cs, ht, rfl, rfl, hj, hg⟩ := hrel
    have JR := Lib.hid hj
    have GR := Lib.hid hg
    clear hj hg
    by_cases hlt : t < n0
    · obtain ⟨d, hd⟩ : ∃ d, D t = d := ⟨_, rfl⟩
      have AB : ∃ b o, A0 = some ⟨b, o, none⟩ ∧ ∀ w', Below N w w' → w'.rangeAt b (o + t * 14) (ddV d) := by
        rcases HD.out with h0 | ⟨b, o, e, hrow⟩
        · omega
        · refine ⟨b, o, e, fun w' hb => ?_⟩
          rw [← hd]
          have hc := hrow t hlt 0 (.int .i64 (D t).d) (dd_0 _)
          exact range_keep1 (hrow t hlt) (hb.block b (by rw [← HN.out]; exact World.block_lt_of_cell? w _ hc))
      have HDO : d.ok := hd ▸ HOK.out t
      obtain ⟨b, ob, rfl, hrow⟩ := AB
      obtain ⟨dd, dn, dm, ⟨s, a, o, k⟩⟩ := d
      have HNM : Hid (wfI dn ∧ wfI dm) := Lib.hid ⟨HDO.2.1, HDO.2.2.1⟩
      have HSN : Hid (wfI s ∧ wfI k) := Lib.hid HDO.2.2.2
      have ROW : Hid (wr.rangeAt b (ob + t * 14) (ddV ⟨dd, dn, dm, ⟨s, a, o, k⟩⟩)) := Lib.hid (hrow wr JR.out.bel)
      have HT : Hid (t < 40 ∧ t < n0) := Lib.hid ⟨by have := H40.out; omega, hlt⟩
      have t1 : (t : Int) < (n0 : Int) := by omega
      have t0 : (0 : Int) ≤ (t : Int) := by omega
      have KW : Hid (wrap64 ((t : Int) + 1) = ((t + 1 : Nat) : Int)) := Lib.hid (by have := HT.out; unfold wrap64; omega)
      have KW2 : Hid ((t : Int) + 1 = ((t + 1 : Nat) : Int)) := Lib.hid (by omega)
      clear HDO hd hrow ht hlt
      go_upto_region 12 with (first
        | (refine wpList_load_midG (by rfl) 35 (.tmp 34) rfl b (ob + t * 14) rfl (ddV ⟨dd, dn, dm, ⟨s, a, o, k⟩⟩) _ ROW.out Try.underlying35 rfl (szL sz35 (ddV_len _)) ?_)
        | (refine wpList_store_rowTo rfl 35 (.tmp 6) (.tmp 35) rfl rfl wr.heap.size (ddV ⟨dd, dn, dm, ⟨s, a, o, k⟩⟩).toArray rfl rfl 35 _ (heap_alloc_last wr _) (szA sz35 (ddV_len _)) (by rw [List.size_toArray, List.size_toArray, ddV_len, ddV_len]) (all_oneCell_toArray (ddV_one _)) ?_)
        | fail)
      have RX : Hid (BL ((wr.alloc (Obj.cells (ddV dd0).toArray 35)).setRow wr.heap.size (ddV ⟨dd, dn, dm, ⟨s, a, o, k⟩⟩).toArray) wr.heap.size (ddV ⟨dd, dn, dm, ⟨s, a, o, k⟩⟩) 35) := Lib.hid (setRow_heap _ _ _ _ _ _ (heap_alloc_last wr _))
      have JV : Hid (DJ N w ((wr.alloc (Obj.cells (ddV dd0).toArray 35)).setRow wr.heap.size (ddV ⟨dd, dn, dm, ⟨s, a, o, k⟩⟩).toArray) S m M A n c cs cs) := Lib.hid (JR.out.grow (below_setRow ((Below.refl _ wr).alloc (Nat.le_refl _) _) (Nat.le_refl _) _))
      generalize (wr.alloc (Obj.cells (ddV dd0).toArray 35)).setRow wr.heap.size (ddV ⟨dd, dn, dm, ⟨s, a, o, k⟩⟩).toArray = wv at *
      generalize wr.heap.size = XB at *
      clear ROW JR t0 t1 hz35
      have a0 := (dd_c0 RX.out).1
      have a1 := (dd_c0 RX.out).2.1
      have a2 := (dd_c0 RX.out).2.2
      by_cases e0 : dd = 0
      · subst e0
        have KV : Hid (Keys wv) := Lib.hid (by have := bl_lt RX.out; unfold Keys; omega)
        obtain ⟨u1, u2, u3, k1, k2, hu1, hu2, hu3, hw1, hw2, hk1⟩ := nums3 dn dm
        have HK1 := Lib.hid hk1
        clear hk1
        have CMM := Lib.hid (CM.out k1 k2 wv KV.out HK1.out)
        go_upto_region 16 with (first
          | (go_at_call 11; refine CMM.out.mono ?_; clear CMM; rintro e w3 ⟨KA, kc, rfl, s1, s2, s3, s4, s5⟩; have S1 := Lib.hid s1; have S2 := Lib.hid s2; have S3 := Lib.hid s3; have B3 := Lib.hid s4; have S5 := Lib.hid s5; clear s1 s2 s3 s4 s5)
          | fail)
        have BA4 := below_alloc0 w3 (Obj.cells #[.int .i64 4, .int .i64 2, .int .i64 k2, .slice KA k1 kc] 38)
        have J4 := Lib.hid ((JV.out.grow B3.out).grow BA4)
        have P4 : Hid (PB (w3.alloc (Obj.cells #[.int .i64 4, .int .i64 2, .int .i64 k2, .slice KA k1 kc] 38)) w3.heap.size 4 2 k2 (.slice KA k1 kc)) := Lib.hid (pb_new rfl 4 2 k2 (.slice KA k1 kc))
        have Q4 : Hid (Src (w3.alloc (Obj.cells #[.int .i64 4, .int .i64 2, .int .i64 k2, .slice KA k1 kc] 38)) KA (8 * k1) (cat rootS k1)) := Lib.hid (S1.out.keep BA4.block)
        have X4 : Hid (BL (w3.alloc (Obj.cells #[.int .i64 4, .int .i64 2, .int .i64 k2, .slice KA k1 kc] 38)) XB (ddV ⟨0, dn, dm, ⟨s, a, o, k⟩⟩) 35) := Lib.hid (bl_keep (bl_keep RX.out (B3.out.block XB (bl_lt RX.out))) (BA4.block XB (Nat.lt_of_lt_of_le (bl_lt RX.out) B3.out.size)))
        have NK : Hid (∀ g o, KA = some ⟨g, o, none⟩ → ¬ apP S m M A g) := Lib.hid fun g o e hp => by have h1 := S5.out g o e; have h2 := JV.out.ltP g hp; omega
        obtain ⟨PB0, hPB0⟩ : ∃ b, w3.heap.size = b := ⟨_, rfl⟩
        rw [hPB0] at P4 ⊢
        generalize w3.alloc (Obj.cells #[.int .i64 4, .int .i64 2, .int .i64 k2, .slice KA k1 kc] 38) = w4 at *
        clear BA4 hPB0 S1 B3 S5 KV RX JV
        have CR := djCreate J4.out (J4.out.len2 ▸ J4.out.len) 4 2 k2 KA k1 kc (cat rootS k1) u3 Q4.out S2.out S3.out
        obtain ⟨ok, hok⟩ : ∃ ok, mayP (at8 (cat rootS k1)) k1 4 2 k2 = ok := ⟨_, rfl⟩
        obtain ⟨r, hr⟩ : ∃ r, creC cs ok (con0 4 2 k2 k1 (cat rootS k1) u3) = r := ⟨_, rfl⟩
        have GN : Hid (goodL r.1) := Lib.hid (by rw [← hr]; exact good_cre ok 4 2 k2 k1 (cat rootS k1) u3 GR.out)
        rw [hok, hr] at CR
        have CD : Hid (∀ wz m', DJ N w wz S m' M A n c r.1 cs → Src wz KA (8 * k1) (cat rootS k1) → Calls Try.prog 13 #[.pointer (some ⟨M, 0, none⟩), .agg #[.int .i64 4, .int .i64 2, .int .i64 k2, .slice KA k1 kc], .int .i64 u3] wz fun e w' => e = .returned (.tuple #[.int .i64 r.2.1, .int .i64 r.2.2]) ∧ ∃ A' n' c', DJ N w w' S m' M A' n' c' r.1 r.1 ∧ Fr wz w' (fun q => q = M)) := Lib.hid fun wz m' hj hs => by
          have := djCreateD hj 4 2 k2 KA k1 kc (cat rootS k1) u3 hs S2.out S3.out
          rw [hok, hr] at this
          exact this
        obtain ⟨ra, hra⟩ : ∃ x, r.2.1 = x := ⟨_, rfl⟩
        obtain ⟨rb, hrb⟩ : ∃ x, r.2.2 = x := ⟨_, rfl⟩
        rw [hra, hrb] at CR CD
        obtain ⟨rl, hrl⟩ : ∃ x, r.1 = x := ⟨_, rfl⟩
        rw [hrl] at CR CD GN
        have CR := Lib.hid CR
        clear hr hra hrb hrl hok
        have a1 := (dd_c0 X4.out).2.1
        go_upto_region 17 with (first
          | (refine wpList_load_midG (by rfl) 38 (.tmp 7) rfl PB0 0 rfl [.int .i64 4, .int .i64 2, .int .i64 k2, .slice KA k1 kc] _ (pb_range P4.out) Try.underlying38 rfl (pb_info 4 2 k2 _) ?_)
          | (go_at_call 12; refine CR.out.mono ?_; clear CR; rintro e w5 ⟨rfl, m5, j5, f5⟩; have J5 := Lib.hid j5; have F5 := Lib.hid f5; clear j5 f5)
          | fail)
        have X5 : Hid (BL w5 XB (ddV ⟨0, dn, dm, ⟨s, a, o, k⟩⟩) 35) := Lib.hid (bl_keep X4.out (F5.out.block XB (bl_lt X4.out) fun hp => J4.out.notP X4.out (by decide) (by decide) (by decide) (.inl hp)))
        have P5 : Hid (PB w5 PB0 4 2 k2 (.slice KA k1 kc)) := Lib.hid ((F5.out.block PB0 (lt_of_block P4.out) fun hp => J4.out.notP P4.out (by decide) (by decide) (by decide) (.inl hp)).trans P4.out)
        have Q5 : Hid (Src w5 KA (8 * k1) (cat rootS k1)) := Lib.hid (src_fr Q4.out F5.out fun g o e hp => NK.out g o e (.inl hp))
        have CE := Lib.hid (CD.out w5 m5 J5.out Q5.out)
        clear a1 CD J4 F5 P4 Q4 X4
        have a1 := (dd_c0 X5.out).2.1
        go_upto_region 18 with (first
          | (refine wpList_load_midG (by rfl) 38 (.tmp 7) rfl PB0 0 rfl [.int .i64 4, .int .i64 2, .int .i64 k2, .slice KA k1 kc] _ (pb_range P5.out) Try.underlying38 rfl (pb_info 4 2 k2 _) ?_)
          | (go_at_call 13; refine CE.out.mono ?_; clear CE; rintro e w6 ⟨rfl, A6, n6, c6, j6, f6⟩; have J6 := Lib.hid j6; clear j6 f6)
          | fail)
        clear a1 hu1 hu2 hu3 hw1 hw2 P5 Q5 X5 J5 NK
        have SM := Lib.hid (djSame J6.out GN.out)
        go_wp2_with (first
          | (go_at_call 19; refine SM.out.mono ?_; clear SM; rintro e wy ⟨rfl, hb⟩; have JY := Lib.hid (J6.out.grow hb); clear hb)
          | fail)
        go_roundw
        case rel => exact ⟨t + 1, _, _, _, _, _, _, HT.out.2, rfl, by first | exact congrArg _ KW.out | exact congrArg _ KW2.out, JY.out, GN.out⟩
        case measure => first | exact meas_up KW.out HT.out.2 | exact meas_up KW2.out HT.out.2
      by_cases e1 : dd = 1
      · subst e1
        have KV : Hid (Keys wv) := Lib.hid (by have := bl_lt RX.out; unfold Keys; omega)
        obtain ⟨u1, u2, u3, k1, k2, hu1, hu2, hu3, hw1, hw2, hk1⟩ := nums3 dn dm
        have HK1 := Lib.hid hk1
        clear hk1
        have CMM := Lib.hid (CM.out k1 k2 wv KV.out HK1.out)
        go_upto_region 16 with (first
          | (go_at_call 11; refine CMM.out.mono ?_; clear CMM; rintro e w3 ⟨KA, kc, rfl, s1, s2, s3, s4, s5⟩; have S1 := Lib.hid s1; have S2 := Lib.hid s2; have S3 := Lib.hid s3; have B3 := Lib.hid s4; have S5 := Lib.hid s5; clear s1 s2 s3 s4 s5)
          | fail)
        have BA4 := below_alloc0 w3 (Obj.cells #[.int .i64 4, .int .i64 2, .int .i64 k2, .slice KA k1 kc] 38)
        have J4 := Lib.hid ((JV.out.grow B3.out).grow BA4)
        have P4 : Hid (PB (w3.alloc (Obj.cells #[.int .i64 4, .int .i64 2, .int .i64 k2, .slice KA k1 kc] 38)) w3.heap.size 4 2 k2 (.slice KA k1 kc)) := Lib.hid (pb_new rfl 4 2 k2 (.slice KA k1 kc))
        have Q4 : Hid (Src (w3.alloc (Obj.cells #[.int .i64 4, .int .i64 2, .int .i64 k2, .slice KA k1 kc] 38)) KA (8 * k1) (cat rootS k1)) := Lib.hid (S1.out.keep BA4.block)
        have X4 : Hid (BL (w3.alloc (Obj.cells #[.int .i64 4, .int .i64 2, .int .i64 k2, .slice KA k1 kc] 38)) XB (ddV ⟨1, dn, dm, ⟨s, a, o, k⟩⟩) 35) := Lib.hid (bl_keep (bl_keep RX.out (B3.out.block XB (bl_lt RX.out))) (BA4.block XB (Nat.lt_of_lt_of_le (bl_lt RX.out) B3.out.size)))
        have NK : Hid (∀ g o, KA = some ⟨g, o, none⟩ → ¬ apP S m M A g) := Lib.hid fun g o e hp => by have h1 := S5.out g o e; have h2 := JV.out.ltP g hp; omega
        obtain ⟨PB0, hPB0⟩ : ∃ b, w3.heap.size = b := ⟨_, rfl⟩
        rw [hPB0] at P4 ⊢
        generalize w3.alloc (Obj.cells #[.int .i64 4, .int .i64 2, .int .i64 k2, .slice KA k1 kc] 38) = w4 at *
        clear BA4 hPB0 S1 B3 S5 KV RX JV
        have CR := djCreate J4.out (J4.out.len2 ▸ J4.out.len) 4 2 k2 KA k1 kc (cat rootS k1) u3 Q4.out S2.out S3.out
        obtain ⟨ok, hok⟩ : ∃ ok, mayP (at8 (cat rootS k1)) k1 4 2 k2 = ok := ⟨_, rfl⟩
        obtain ⟨r, hr⟩ : ∃ r, creC cs ok (con0 4 2 k2 k1 (cat rootS k1) u3) = r := ⟨_, rfl⟩
        have GN : Hid (goodL r.1) := Lib.hid (by rw [← hr]; exact good_cre ok 4 2 k2 k1 (cat rootS k1) u3 GR.out)
        rw [hok, hr] at CR
        have CD : Hid (∀ wz m', DJ N w wz S m' M A n c r.1 cs → Src wz KA (8 * k1) (cat rootS k1) → Calls Try.prog 13 #[.pointer (some ⟨M, 0, none⟩), .agg #[.int .i64 4, .int .i64 2, .int .i64 k2, .slice KA k1 kc], .int .i64 u3] wz fun e w' => e = .returned (.tuple #[.int .i64 r.2.1, .int .i64 r.2.2]) ∧ ∃ A' n' c', DJ N w w' S m' M A' n' c' r.1 r.1 ∧ Fr wz w' (fun q => q = M)) := Lib.hid fun wz m' hj hs => by
          have := djCreateD hj 4 2 k2 KA k1 kc (cat rootS k1) u3 hs S2.out S3.out
          rw [hok, hr] at this
          exact this
        obtain ⟨ra, hra⟩ : ∃ x, r.2.1 = x := ⟨_, rfl⟩
        obtain ⟨rb, hrb⟩ : ∃ x, r.2.2 = x := ⟨_, rfl⟩
        rw [hra, hrb] at CR CD
        obtain ⟨rl, hrl⟩ : ∃ x, r.1 = x := ⟨_, rfl⟩
        rw [hrl] at CR CD GN
        have CR := Lib.hid CR
        clear hr hra hrb hrl hok
        have a1 := (dd_c0 X4.out).2.1
        go_upto_region 17 with (first
          | (refine wpList_load_midG (by rfl) 38 (.tmp 7) rfl PB0 0 rfl [.int .i64 4, .int .i64 2, .int .i64 k2, .slice KA k1 kc] _ (pb_range P4.out) Try.underlying38 rfl (pb_info 4 2 k2 _) ?_)
          | (go_at_call 12; refine CR.out.mono ?_; clear CR; rintro e w5 ⟨rfl, m5, j5, f5⟩; have J5 := Lib.hid j5; have F5 := Lib.hid f5; clear j5 f5)
          | fail)
        have X5 : Hid (BL w5 XB (ddV ⟨1, dn, dm, ⟨s, a, o, k⟩⟩) 35) := Lib.hid (bl_keep X4.out (F5.out.block XB (bl_lt X4.out) fun hp => J4.out.notP X4.out (by decide) (by decide) (by decide) (.inl hp)))
        have P5 : Hid (PB w5 PB0 4 2 k2 (.slice KA k1 kc)) := Lib.hid ((F5.out.block PB0 (lt_of_block P4.out) fun hp => J4.out.notP P4.out (by decide) (by decide) (by decide) (.inl hp)).trans P4.out)
        have Q5 : Hid (Src w5 KA (8 * k1) (cat rootS k1)) := Lib.hid (src_fr Q4.out F5.out fun g o e hp => NK.out g o e (.inl hp))
        have CE := Lib.hid (CD.out w5 m5 J5.out Q5.out)
        clear a1 CD J4 F5 P4 Q4 X4
        have a1 := (dd_c0 X5.out).2.1
        go_upto_region 18 with (first
          | (refine wpList_load_midG (by rfl) 38 (.tmp 7) rfl PB0 0 rfl [.int .i64 4, .int .i64 2, .int .i64 k2, .slice KA k1 kc] _ (pb_range P5.out) Try.underlying38 rfl (pb_info 4 2 k2 _) ?_)
          | (go_at_call 13; refine CE.out.mono ?_; clear CE; rintro e w6 ⟨rfl, A6, n6, c6, j6, f6⟩; have J6 := Lib.hid j6; clear j6 f6)
          | fail)
        clear a1 hu1 hu2 hu3 hw1 hw2 P5 Q5 X5 J5 NK
        have SM := Lib.hid (djSame J6.out GN.out)
        go_wp2_with (first
          | (go_at_call 19; refine SM.out.mono ?_; clear SM; rintro e wy ⟨rfl, hb⟩; have JY := Lib.hid (J6.out.grow hb); clear hb)
          | fail)
        go_roundw
        case rel => exact ⟨t + 1, _, _, _, _, _, _, HT.out.2, rfl, by first | exact congrArg _ KW.out | exact congrArg _ KW2.out, JY.out, GN.out⟩
        case measure => first | exact meas_up KW.out HT.out.2 | exact meas_up KW2.out HT.out.2
      by_cases e2 : dd = 2
      · subst e2
        clear e0 e1 a1 a2
        have JD : Hid (DJ N w wv.drew S m M A n c cs cs) := Lib.hid (JV.out.grow (Below.refl _ wv).drew)
        have RXD : Hid (BL wv.drew XB (ddV ⟨2, dn, dm, ⟨s, a, o, k⟩⟩) 35) := Lib.hid RX.out
        have CF := djForward JD.out (JV.out.len2 ▸ JV.out.len) GR.out s a k o HSN.out.1 HSN.out.2
        obtain ⟨r, hr⟩ : ∃ r, fwC cs s k = r := ⟨_, rfl⟩
        have GN : Hid (goodL r.1) := Lib.hid (by rw [← hr]; exact good_fw s k GR.out)
        rw [hr] at CF
        have CD : Hid (∀ wz m', DJ N w wz S m' M A n c r.1 cs → Calls Try.prog 15 #[.pointer (some ⟨M, 0, none⟩), .agg (fwV s a o k).toArray] wz fun e w' => e = .returned (.int .i64 r.2) ∧ DJ N w w' S m' M A n c r.1 r.1 ∧ Fr wz w' (onB A)) := Lib.hid fun wz m' hj => by
          have := djForwardD hj GR.out s a k o HSN.out.1 HSN.out.2
          rw [hr] at this
          exact this
        obtain ⟨rb, hrb⟩ : ∃ x, r.2 = x := ⟨_, rfl⟩
        obtain ⟨rl, hrl⟩ : ∃ x, r.1 = x := ⟨_, rfl⟩
        rw [hrb, hrl] at CF CD
        rw [hrl] at GN
        have CF := Lib.hid CF
        clear hr hrb hrl
        go_upto_region 23 with (fail)
        refine wp_region_held_drew (S := fun W : World => BL W XB (ddV ⟨2, dn, dm, ⟨s, a, o, k⟩⟩) 35) (by kernel_rfl) RXD.out (fun hHeld => ?_)
        refine wpAnyH_take (i := 0) (v := ?_) rfl (by kernel_rfl) (by kernel_rfl) (by kernel_rfl) (fun _ _ _ h => h) (Or.inl ⟨by rfl, ?_⟩) (by assumption) ?_
        rotate_left
        · (intro w hSw; (try dsimp only at hSw); go_simp; try with_reducible rfl)
        simp only [Act.put, List.getElem_toArray, List.getElem_cons_zero, List.setIfInBounds_toArray, List.set_cons_zero, List.set_cons_succ]
        refine wpAnyH_take (i := 1) (v := ?_) rfl (by kernel_rfl) (by kernel_rfl) (by kernel_rfl) (fun _ _ _ h => h) (Or.inl ⟨by rfl, ?_⟩) (by assumption) ?_
        rotate_left
        · (intro w hSw; (try dsimp only at hSw); go_simp; try with_reducible rfl)
        simp only [Act.put, List.getElem_toArray, List.getElem_cons_succ, List.getElem_cons_zero, List.setIfInBounds_toArray, List.set_cons_zero, List.set_cons_succ]
        refine wpAnyH_take (i := 2) rfl (by kernel_rfl) (by kernel_rfl) (by kernel_rfl) (fun _ _ _ h => h) (yieldsIf_load_mid (by rfl) 33 (.tmp 81) rfl XB (3) rfl (fwV s a o k) _ (fun w h => dd_fw' h) Try.underlying33 rfl (szL szF33 (fw_len s a k o))) (by assumption) ?_
        simp only [Act.put, List.getElem_toArray, List.getElem_cons_succ, List.getElem_cons_zero, List.setIfInBounds_toArray, List.set_cons_zero, List.set_cons_succ]
        refine wpAnyH_take (i := 4) (v := ?_) rfl (by kernel_rfl) (by kernel_rfl) (by kernel_rfl) (fun _ _ _ h => h) (Or.inl ⟨by rfl, ?_⟩) (by assumption) ?_
        rotate_left
        · (intro w hSw; (try dsimp only at hSw); go_simp; try with_reducible rfl)
        simp only [Act.put, List.getElem_toArray, List.getElem_cons_succ, List.getElem_cons_zero, List.setIfInBounds_toArray, List.set_cons_zero, List.set_cons_succ]
        refine wpAnyH_take (i := 5) (v := ?_) rfl (by kernel_rfl) (by kernel_rfl) (by kernel_rfl) (fun _ _ _ h => h) (Or.inl ⟨by rfl, ?_⟩) (by assumption) ?_
        rotate_left
        · (intro w hSw; (try dsimp only at hSw); go_simp; try with_reducible rfl)
        simp only [Act.put, List.getElem_toArray, List.getElem_cons_succ, List.getElem_cons_zero, List.setIfInBounds_toArray, List.set_cons_zero, List.set_cons_succ]
        refine wpAnyH_take (i := 6) rfl (by kernel_rfl) (by kernel_rfl) (by kernel_rfl) (fun _ _ _ h => h) (yieldsIf_load_mid (by rfl) 33 (.tmp 85) rfl XB (3) rfl (fwV s a o k) _ (fun w h => dd_fw' h) Try.underlying33 rfl (szL szF33 (fw_len s a k o))) (by assumption) ?_
        simp only [Act.put, List.getElem_toArray, List.getElem_cons_succ, List.getElem_cons_zero, List.setIfInBounds_toArray, List.set_cons_zero, List.set_cons_succ]
        refine wpAnyH_ready (rs := [3]) (by kernel_rfl) (by simp) ?_
        refine AllReadyH.cons rfl (fun K hK => ?_) AllReadyH.nil
        go_simp
        go_at_call 14
        refine CF.out.mono ?_
        rintro e w5 ⟨rfl, m5, j5, f5⟩
        have J5 := Lib.hid j5
        have X5 : Hid (BL w5 XB (ddV ⟨2, dn, dm, ⟨s, a, o, k⟩⟩) 35) := Lib.hid (bl_keep RXD.out (f5.block XB (bl_lt RXD.out) fun hp => JD.out.notP RXD.out (by decide) (by decide) (by decide) (.inl hp)))
        have CG := Lib.hid (CD.out w5 m5 J5.out)
        clear j5 f5 CF
        (try go_wp2_with fail)
        refine hK.out _ _ X5.out (fun hHeld => ?_)
        clear hK K
        (try simp only [Act.put, List.getElem_toArray, List.getElem_cons_succ, List.getElem_cons_zero, List.setIfInBounds_toArray, List.set_cons_zero, List.set_cons_succ])
        refine wpAnyH_ready (rs := [7]) (by kernel_rfl) (by simp) ?_
        refine AllReadyH.cons rfl (fun K hK => ?_) AllReadyH.nil
        go_simp
        go_at_call 15
        refine CG.out.mono ?_
        rintro e w6 ⟨rfl, j6, f6⟩
        have J6 := Lib.hid j6
        have X6 : Hid (BL w6 XB (ddV ⟨2, dn, dm, ⟨s, a, o, k⟩⟩) 35) := Lib.hid (bl_keep X5.out (f6.block XB (bl_lt X5.out) fun hp => J5.out.notP X5.out (by decide) (by decide) (by decide) (.inr (.inr hp))))
        clear j6 f6 CG CD
        (try go_wp2_with fail)
        refine hK.out _ _ X6.out (fun hHeld => ?_)
        clear hK K
        (try simp only [Act.put, List.getElem_toArray, List.getElem_cons_succ, List.getElem_cons_zero, List.setIfInBounds_toArray, List.set_cons_zero, List.set_cons_succ])
        refine wpAnyH_take (i := 8) (v := ?_) rfl (by kernel_rfl) (by kernel_rfl) (by kernel_rfl) (fun _ _ _ h => h) (Or.inl ⟨by rfl, ?_⟩) (by assumption) ?_
        rotate_left
        · (intro w hSw; (try dsimp only at hSw); go_simp; try with_reducible rfl)
        simp only [Act.put, List.getElem_toArray, List.getElem_cons_succ, List.getElem_cons_zero, List.setIfInBounds_toArray, List.set_cons_zero, List.set_cons_succ]
        clear hHeld
        refine wpAnyH_done (by kernel_rfl) ?_ _
        clear J5 X5 X6
        have SM := Lib.hid (djSame J6.out GN.out)
        go_wp2_with (first
          | (go_at_call 19; refine SM.out.mono ?_; clear SM; rintro e wy ⟨rfl, hb⟩; have JY := Lib.hid (J6.out.grow hb); clear hb)
          | fail)
        go_roundw
        case rel => exact ⟨t + 1, _, _, _, _, _, _, HT.out.2, rfl, by first | exact congrArg _ KW.out | exact congrArg _ KW2.out, JY.out, GN.out⟩
        case measure => first | exact meas_up KW.out HT.out.2 | exact meas_up KW2.out HT.out.2
      by_cases e3 : dd = 3
      · subst e3
        clear e0 e1 e2 a1 a2
        have JD : Hid (DJ N w wv.drew S m M A n c cs cs) := Lib.hid (JV.out.grow (Below.refl _ wv).drew)
        have RXD : Hid (BL wv.drew XB (ddV ⟨3, dn, dm, ⟨s, a, o, k⟩⟩) 35) := Lib.hid RX.out
        have CF := djForward JD.out (JV.out.len2 ▸ JV.out.len) GR.out s a k o HSN.out.1 HSN.out.2
        obtain ⟨r, hr⟩ : ∃ r, fwC cs s k = r := ⟨_, rfl⟩
        have GN : Hid (goodL r.1) := Lib.hid (by rw [← hr]; exact good_fw s k GR.out)
        rw [hr] at CF
        have CD : Hid (∀ wz m', DJ N w wz S m' M A n c r.1 cs → Calls Try.prog 15 #[.pointer (some ⟨M, 0, none⟩), .agg (fwV s a o k).toArray] wz fun e w' => e = .returned (.int .i64 r.2) ∧ DJ N w w' S m' M A n c r.1 r.1 ∧ Fr wz w' (onB A)) := Lib.hid fun wz m' hj => by
          have := djForwardD hj GR.out s a k o HSN.out.1 HSN.out.2
          rw [hr] at this
          exact this
        obtain ⟨rb, hrb⟩ : ∃ x, r.2 = x := ⟨_, rfl⟩
        obtain ⟨rl, hrl⟩ : ∃ x, r.1 = x := ⟨_, rfl⟩
        rw [hrb, hrl] at CF CD
        rw [hrl] at GN
        have CF := Lib.hid CF
        clear hr hrb hrl
        go_upto_region 23 with (fail)
        refine wp_region_held_drew (S := fun W : World => BL W XB (ddV ⟨3, dn, dm, ⟨s, a, o, k⟩⟩) 35) (by kernel_rfl) RXD.out (fun hHeld => ?_)
        refine wpAnyH_take (i := 0) (v := ?_) rfl (by kernel_rfl) (by kernel_rfl) (by kernel_rfl) (fun _ _ _ h => h) (Or.inl ⟨by rfl, ?_⟩) (by assumption) ?_
        rotate_left
        · (intro w hSw; (try dsimp only at hSw); go_simp; try with_reducible rfl)
        simp only [Act.put, List.getElem_toArray, List.getElem_cons_zero, List.setIfInBounds_toArray, List.set_cons_zero, List.set_cons_succ]
        refine wpAnyH_take (i := 1) (v := ?_) rfl (by kernel_rfl) (by kernel_rfl) (by kernel_rfl) (fun _ _ _ h => h) (Or.inl ⟨by rfl, ?_⟩) (by assumption) ?_
        rotate_left
        · (intro w hSw; (try dsimp only at hSw); go_simp; try with_reducible rfl)
        simp only [Act.put, List.getElem_toArray, List.getElem_cons_succ, List.getElem_cons_zero, List.setIfInBounds_toArray, List.set_cons_zero, List.set_cons_succ]
        refine wpAnyH_take (i := 2) rfl (by kernel_rfl) (by kernel_rfl) (by kernel_rfl) (fun _ _ _ h => h) (yieldsIf_load_mid (by rfl) 33 (.tmp 81) rfl XB (3) rfl (fwV s a o k) _ (fun w h => dd_fw' h) Try.underlying33 rfl (szL szF33 (fw_len s a k o))) (by assumption) ?_
        simp only [Act.put, List.getElem_toArray, List.getElem_cons_succ, List.getElem_cons_zero, List.setIfInBounds_toArray, List.set_cons_zero, List.set_cons_succ]
        refine wpAnyH_take (i := 4) (v := ?_) rfl (by kernel_rfl) (by kernel_rfl) (by kernel_rfl) (fun _ _ _ h => h) (Or.inl ⟨by rfl, ?_⟩) (by assumption) ?_
        rotate_left
        · (intro w hSw; (try dsimp only at hSw); go_simp; try with_reducible rfl)
        simp only [Act.put, List.getElem_toArray, List.getElem_cons_succ, List.getElem_cons_zero, List.setIfInBounds_toArray, List.set_cons_zero, List.set_cons_succ]
        refine wpAnyH_take (i := 5) (v := ?_) rfl (by kernel_rfl) (by kernel_rfl) (by kernel_rfl) (fun _ _ _ h => h) (Or.inl ⟨by rfl, ?_⟩) (by assumption) ?_
        rotate_left
        · (intro w hSw; (try dsimp only at hSw); go_simp; try with_reducible rfl)
        simp only [Act.put, List.getElem_toArray, List.getElem_cons_succ, List.getElem_cons_zero, List.setIfInBounds_toArray, List.set_cons_zero, List.set_cons_succ]
        refine wpAnyH_take (i := 6) rfl (by kernel_rfl) (by kernel_rfl) (by kernel_rfl) (fun _ _ _ h => h) (yieldsIf_load_mid (by rfl) 33 (.tmp 85) rfl XB (3) rfl (fwV s a o k) _ (fun w h => dd_fw' h) Try.underlying33 rfl (szL szF33 (fw_len s a k o))) (by assumption) ?_
        simp only [Act.put, List.getElem_toArray, List.getElem_cons_succ, List.getElem_cons_zero, List.setIfInBounds_toArray, List.set_cons_zero, List.set_cons_succ]
        refine wpAnyH_ready (rs := [3]) (by kernel_rfl) (by simp) ?_
        refine AllReadyH.cons rfl (fun K hK => ?_) AllReadyH.nil
        go_simp
        go_at_call 14
        refine CF.out.mono ?_
        rintro e w5 ⟨rfl, m5, j5, f5⟩
        have J5 := Lib.hid j5
        have X5 : Hid (BL w5 XB (ddV ⟨3, dn, dm, ⟨s, a, o, k⟩⟩) 35) := Lib.hid (bl_keep RXD.out (f5.block XB (bl_lt RXD.out) fun hp => JD.out.notP RXD.out (by decide) (by decide) (by decide) (.inl hp)))
        have CG := Lib.hid (CD.out w5 m5 J5.out)
        clear j5 f5 CF
        (try go_wp2_with fail)
        refine hK.out _ _ X5.out (fun hHeld => ?_)
        clear hK K
        (try simp only [Act.put, List.getElem_toArray, List.getElem_cons_succ, List.getElem_cons_zero, List.setIfInBounds_toArray, List.set_cons_zero, List.set_cons_succ])
        refine wpAnyH_ready (rs := [7]) (by kernel_rfl) (by simp) ?_
        refine AllReadyH.cons rfl (fun K hK => ?_) AllReadyH.nil
        go_simp
        go_at_call 15
        refine CG.out.mono ?_
        rintro e w6 ⟨rfl, j6, f6⟩
        have J6 := Lib.hid j6
        have X6 : Hid (BL w6 XB (ddV ⟨3, dn, dm, ⟨s, a, o, k⟩⟩) 35) := Lib.hid (bl_keep X5.out (f6.block XB (bl_lt X5.out) fun hp => J5.out.notP X5.out (by decide) (by decide) (by decide) (.inr (.inr hp))))
        clear j6 f6 CG CD
        (try go_wp2_with fail)
        refine hK.out _ _ X6.out (fun hHeld => ?_)
        clear hK K
        (try simp only [Act.put, List.getElem_toArray, List.getElem_cons_succ, List.getElem_cons_zero, List.setIfInBounds_toArray, List.set_cons_zero, List.set_cons_succ])
        refine wpAnyH_take (i := 8) (v := ?_) rfl (by kernel_rfl) (by kernel_rfl) (by kernel_rfl) (fun _ _ _ h => h) (Or.inl ⟨by rfl, ?_⟩) (by assumption) ?_
        rotate_left
        · (intro w hSw; (try dsimp only at hSw); go_simp; try with_reducible rfl)
        simp only [Act.put, List.getElem_toArray, List.getElem_cons_succ, List.getElem_cons_zero, List.setIfInBounds_toArray, List.set_cons_zero, List.set_cons_succ]
        clear hHeld
        refine wpAnyH_done (by kernel_rfl) ?_ _
        clear J5 X5 X6
        have SM := Lib.hid (djSame J6.out GN.out)
        go_wp2_with (first
          | (go_at_call 19; refine SM.out.mono ?_; clear SM; rintro e wy ⟨rfl, hb⟩; have JY := Lib.hid (J6.out.grow hb); clear hb)
          | fail)
        go_roundw
        case rel => exact ⟨t + 1, _, _, _, _, _, _, HT.out.2, rfl, by first | exact congrArg _ KW.out | exact congrArg _ KW2.out, JY.out, GN.out⟩
        case measure => first | exact meas_up KW.out HT.out.2 | exact meas_up KW2.out HT.out.2
      by_cases e4 : dd = 4
      · subst e4
        clear e0 e1 e2 e3 a1 a2
        have JD : Hid (DJ N w wv.drew S m M A n c cs cs) := Lib.hid (JV.out.grow (Below.refl _ wv).drew)
        have RXD : Hid (BL wv.drew XB (ddV ⟨4, dn, dm, ⟨s, a, o, k⟩⟩) 35) := Lib.hid RX.out
        have CF := djForward JD.out (JV.out.len2 ▸ JV.out.len) GR.out s a k o HSN.out.1 HSN.out.2
        obtain ⟨r, hr⟩ : ∃ r, fwC cs s k = r := ⟨_, rfl⟩
        have GN : Hid (goodL r.1) := Lib.hid (by rw [← hr]; exact good_fw s k GR.out)
        rw [hr] at CF
        have CD : Hid (∀ wz m', DJ N w wz S m' M A n c r.1 cs → Calls Try.prog 15 #[.pointer (some ⟨M, 0, none⟩), .agg (fwV s a o k).toArray] wz fun e w' => e = .returned (.int .i64 r.2) ∧ DJ N w w' S m' M A n c r.1 r.1 ∧ Fr wz w' (onB A)) := Lib.hid fun wz m' hj => by
          have := djForwardD hj GR.out s a k o HSN.out.1 HSN.out.2
          rw [hr] at this
          exact this
        obtain ⟨rb, hrb⟩ : ∃ x, r.2 = x := ⟨_, rfl⟩
        obtain ⟨rl, hrl⟩ : ∃ x, r.1 = x := ⟨_, rfl⟩
        rw [hrb, hrl] at CF CD
        rw [hrl] at GN
        have CF := Lib.hid CF
        clear hr hrb hrl
        go_upto_region 23 with (fail)
        refine wp_region_held_drew (S := fun W : World => BL W XB (ddV ⟨4, dn, dm, ⟨s, a, o, k⟩⟩) 35) (by kernel_rfl) RXD.out (fun hHeld => ?_)
        refine wpAnyH_take (i := 0) (v := ?_) rfl (by kernel_rfl) (by kernel_rfl) (by kernel_rfl) (fun _ _ _ h => h) (Or.inl ⟨by rfl, ?_⟩) (by assumption) ?_
        rotate_left
        · (intro w hSw; (try dsimp only at hSw); go_simp; try with_reducible rfl)
        simp only [Act.put, List.getElem_toArray, List.getElem_cons_zero, List.setIfInBounds_toArray, List.set_cons_zero, List.set_cons_succ]
        refine wpAnyH_take (i := 1) (v := ?_) rfl (by kernel_rfl) (by kernel_rfl) (by kernel_rfl) (fun _ _ _ h => h) (Or.inl ⟨by rfl, ?_⟩) (by assumption) ?_
        rotate_left
        · (intro w hSw; (try dsimp only at hSw); go_simp; try with_reducible rfl)
        simp only [Act.put, List.getElem_toArray, List.getElem_cons_succ, List.getElem_cons_zero, List.setIfInBounds_toArray, List.set_cons_zero, List.set_cons_succ]
        refine wpAnyH_take (i := 2) rfl (by kernel_rfl) (by kernel_rfl) (by kernel_rfl) (fun _ _ _ h => h) (yieldsIf_load_mid (by rfl) 33 (.tmp 81) rfl XB (3) rfl (fwV s a o k) _ (fun w h => dd_fw' h) Try.underlying33 rfl (szL szF33 (fw_len s a k o))) (by assumption) ?_
        simp only [Act.put, List.getElem_toArray, List.getElem_cons_succ, List.getElem_cons_zero, List.setIfInBounds_toArray, List.set_cons_zero, List.set_cons_succ]
        refine wpAnyH_take (i := 4) (v := ?_) rfl (by kernel_rfl) (by kernel_rfl) (by kernel_rfl) (fun _ _ _ h => h) (Or.inl ⟨by rfl, ?_⟩) (by assumption) ?_
        rotate_left
        · (intro w hSw; (try dsimp only at hSw); go_simp; try with_reducible rfl)
        simp only [Act.put, List.getElem_toArray, List.getElem_cons_succ, List.getElem_cons_zero, List.setIfInBounds_toArray, List.set_cons_zero, List.set_cons_succ]
        refine wpAnyH_take (i := 5) (v := ?_) rfl (by kernel_rfl) (by kernel_rfl) (by kernel_rfl) (fun _ _ _ h => h) (Or.inl ⟨by rfl, ?_⟩) (by assumption) ?_
        rotate_left
        · (intro w hSw; (try dsimp only at hSw); go_simp; try with_reducible rfl)
        simp only [Act.put, List.getElem_toArray, List.getElem_cons_succ, List.getElem_cons_zero, List.setIfInBounds_toArray, List.set_cons_zero, List.set_cons_succ]
        refine wpAnyH_take (i := 6) rfl (by kernel_rfl) (by kernel_rfl) (by kernel_rfl) (fun _ _ _ h => h) (yieldsIf_load_mid (by rfl) 33 (.tmp 85) rfl XB (3) rfl (fwV s a o k) _ (fun w h => dd_fw' h) Try.underlying33 rfl (szL szF33 (fw_len s a k o))) (by assumption) ?_
        simp only [Act.put, List.getElem_toArray, List.getElem_cons_succ, List.getElem_cons_zero, List.setIfInBounds_toArray, List.set_cons_zero, List.set_cons_succ]
        refine wpAnyH_ready (rs := [3]) (by kernel_rfl) (by simp) ?_
        refine AllReadyH.cons rfl (fun K hK => ?_) AllReadyH.nil
        go_simp
        go_at_call 14
        refine CF.out.mono ?_
        rintro e w5 ⟨rfl, m5, j5, f5⟩
        have J5 := Lib.hid j5
        have X5 : Hid (BL w5 XB (ddV ⟨4, dn, dm, ⟨s, a, o, k⟩⟩) 35) := Lib.hid (bl_keep RXD.out (f5.block XB (bl_lt RXD.out) fun hp => JD.out.notP RXD.out (by decide) (by decide) (by decide) (.inl hp)))
        have CG := Lib.hid (CD.out w5 m5 J5.out)
        clear j5 f5 CF
        (try go_wp2_with fail)
        refine hK.out _ _ X5.out (fun hHeld => ?_)
        clear hK K
        (try simp only [Act.put, List.getElem_toArray, List.getElem_cons_succ, List.getElem_cons_zero, List.setIfInBounds_toArray, List.set_cons_zero, List.set_cons_succ])
        refine wpAnyH_ready (rs := [7]) (by kernel_rfl) (by simp) ?_
        refine AllReadyH.cons rfl (fun K hK => ?_) AllReadyH.nil
        go_simp
        go_at_call 15
        refine CG.out.mono ?_
        rintro e w6 ⟨rfl, j6, f6⟩
        have J6 := Lib.hid j6
        have X6 : Hid (BL w6 XB (ddV ⟨4, dn, dm, ⟨s, a, o, k⟩⟩) 35) := Lib.hid (bl_keep X5.out (f6.block XB (bl_lt X5.out) fun hp => J5.out.notP X5.out (by decide) (by decide) (by decide) (.inr (.inr hp))))
        clear j6 f6 CG CD
        (try go_wp2_with fail)
        refine hK.out _ _ X6.out (fun hHeld => ?_)
        clear hK K
        (try simp only [Act.put, List.getElem_toArray, List.getElem_cons_succ, List.getElem_cons_zero, List.setIfInBounds_toArray, List.set_cons_zero, List.set_cons_succ])
        refine wpAnyH_take (i := 8) (v := ?_) rfl (by kernel_rfl) (by kernel_rfl) (by kernel_rfl) (fun _ _ _ h => h) (Or.inl ⟨by rfl, ?_⟩) (by assumption) ?_
        rotate_left
        · (intro w hSw; (try dsimp only at hSw); go_simp; try with_reducible rfl)
        simp only [Act.put, List.getElem_toArray, List.getElem_cons_succ, List.getElem_cons_zero, List.setIfInBounds_toArray, List.set_cons_zero, List.set_cons_succ]
        clear hHeld
        refine wpAnyH_done (by kernel_rfl) ?_ _
        clear J5 X5 X6
        have SM := Lib.hid (djSame J6.out GN.out)
        go_wp2_with (first
          | (go_at_call 19; refine SM.out.mono ?_; clear SM; rintro e wy ⟨rfl, hb⟩; have JY := Lib.hid (J6.out.grow hb); clear hb)
          | fail)
        go_roundw
        case rel => exact ⟨t + 1, _, _, _, _, _, _, HT.out.2, rfl, by first | exact congrArg _ KW.out | exact congrArg _ KW2.out, JY.out, GN.out⟩
        case measure => first | exact meas_up KW.out HT.out.2 | exact meas_up KW2.out HT.out.2
      by_cases e5 : dd = 5
      · subst e5
        clear e0 e1 e2 e3 e4 a1 a2
        have hwn : wfI dn := HNM.out.1
        have CS := Lib.hid (djSide JV.out dn hwn)
        have LC : Hid (cs.length = n) := Lib.hid JV.out.len2
        rw [LC.out] at CS
        have a1 := (dd_c0 RX.out).2.1
        have hzs : ∀ w, (zeroValue 53).run Try.prog w = .ok (.agg (sdV sm0).toArray) w := z53
        have hzd : ∀ w, (zeroValue 57).run Try.prog w = .ok (.agg (sdV sm0).toArray) w := z57
        have s0 : Hid ((sdV sm0).length = 42) := Lib.hid (sd_len sm0)
        obtain ⟨inn, hin⟩ : ∃ b, decide (0 ≤ dn ∧ dn < (n : Int)) = b := ⟨_, rfl⟩
        rw [hin] at CS
        have HIN := Lib.hid hin
        clear hwn hin
        go_wp2_with fail
        refine CS.out.mono ?_
        rintro e w5 ⟨x, rfl, x1, x2, hb5⟩
        have XC := Lib.hid x1
        have XA := Lib.hid x2
        have B5 := Lib.hid hb5
        have sx : Hid ((sdV x).length = 42) := Lib.hid (sd_len x)
        clear x1 x2 hb5 CS a1
        go_upto_region 27 with (first
          | (refine wpList_store_rowTo rfl 53 (.tmp 12) (.tmp 96) rfl rfl w5.heap.size (sdV x).toArray rfl rfl 53 _ (heap_alloc_last w5 _) (szA sz53 sx.out) (by rw [List.size_toArray, List.size_toArray, sx.out, s0.out]) (all_oneCell_toArray (sd_one x)) ?_)
          | fail)
        have R6 : Hid (BL ((w5.alloc (Obj.cells (sdV sm0).toArray 53)).setRow w5.heap.size (sdV x).toArray) w5.heap.size (sdV x) 53) := Lib.hid (setRow_heap _ _ _ _ _ _ (heap_alloc_last w5 _))
        have B6 : Hid (Below w5.heap.size w5 ((w5.alloc (Obj.cells (sdV sm0).toArray 53)).setRow w5.heap.size (sdV x).toArray)) := Lib.hid (below_setRow ((Below.refl _ w5).alloc (Nat.le_refl _) _) (Nat.le_refl _) _)
        generalize (w5.alloc (Obj.cells (sdV sm0).toArray 53)).setRow w5.heap.size (sdV x).toArray = w6 at *
        obtain ⟨X1, hX1⟩ : ∃ q, w5.heap.size = q := ⟨_, rfl⟩
        have HX1 : Hid (wv.heap.size ≤ X1) := Lib.hid (by rw [← hX1]; exact B5.out.size)
        have J6 := Lib.hid ((JV.out.grow B5.out).grow B6.out)
        have X6 : Hid (BL w6 XB (ddV ⟨5, dn, dm, ⟨s, a, o, k⟩⟩) 35) := Lib.hid (bl_keep (bl_keep RX.out (B5.out.block XB (bl_lt RX.out))) (B6.out.block XB (Nat.lt_of_lt_of_le (bl_lt RX.out) B5.out.size)))
        have XA6 : Hid (SdAt w6 (fun q => q < wv.heap.size ∨ X1 ≤ q) x) := Lib.hid ((XA.out.grow B6.out).bothF (XA.out.old hX1 (by rw [← hX1]; exact B6.out)))
        have VW6 : Hid (Below wv.heap.size wv w6) := Lib.hid (B5.out.trans (B6.out.mono B5.out.size))
        rw [hX1] at R6 ⊢
        clear hX1 XA B5 B6
        have BW6 : Hid (Below w6.heap.size w6 w6) := Lib.hid (Below.refl _ _)
        have CN : ∀ W, Below w6.heap.size w6 W → W.cell? ⟨XB, 1, none⟩ = some (.int .i64 dn) := fun W hb => (dd_c0 (bl_keep X6.out (hb.block XB (bl_lt X6.out)))).2.1
        have CM6 : ∀ W, Below w6.heap.size w6 W → W.cell? ⟨M, 0, none⟩ = some (.slice A n c) := fun W hb => (J6.out.grow hb).c0
        by_cases h0 : 0 ≤ dn
        rotate_left
        · have g0 : decide ((0 : Int) ≤ dn) = false := decide_eq_false h0
          have hf : inn = false := by rw [← HIN.out]; exact decide_eq_false fun h => h0 h.1
          subst hf
          refine wp_region_class (C := fun W => Below w6.heap.size w6 W) (by kernel_rfl) (by kernel_rfl) (BW6.out.drew) ?_
          refine wpQuiet_step (fun K hK => ?_)
          refine quiet_val (by rfl) (v := ?_) ?_ (hK _ ?_)
          rotate_left
          · (intro w hSw; go_simp; try with_reducible rfl)
          clear hK K
          simp only [Act.put, List.setIfInBounds_toArray, List.set_cons_zero, List.set_cons_succ]
          refine wpQuiet_step (fun K hK => ?_)
          refine quiet_val (by rfl) (v := ?_) ?_ (hK _ ?_)
          rotate_left
          · (intro w hSw; go_simp; try with_reducible rfl)
          clear hK K
          simp only [Act.put, List.setIfInBounds_toArray, List.set_cons_zero, List.set_cons_succ]
          refine wpQuiet_step (fun K hK => ?_)
          refine quiet_val (by rfl) (v := ?_) ?_ (hK _ ?_)
          rotate_left
          · (intro w hSw; have z := CN w hSw; go_simp; try with_reducible rfl)
          clear hK K
          simp only [Act.put, List.setIfInBounds_toArray, List.set_cons_zero, List.set_cons_succ]
          refine wpQuiet_step (fun K hK => ?_)
          refine quiet_val (by rfl) (v := .bool false) (fun w hSw => ?_) (hK _ ?_)
          · (go_simp; first | done | (simp; done) | exact GNI | (trace_state; exact sorryX))
          clear hK K
          simp only [Act.put, List.setIfInBounds_toArray, List.set_cons_zero, List.set_cons_succ]
          refine wpQuiet_step (fun K hK => ?_)
          refine quiet_val (by rfl) (v := ?_) ?_ (hK _ ?_)
          rotate_left
          · (intro w hSw; go_simp; try with_reducible rfl)
          clear hK K
          simp only [Act.put, List.setIfInBounds_toArray, List.set_cons_zero, List.set_cons_succ]
          refine wpQuiet_step (fun K hK => ?_)
          refine quiet_skip (by kernel_rfl) (hK _ ?_)
          clear hK K
          simp only [Act.put, List.setIfInBounds_toArray, List.set_cons_zero, List.set_cons_succ]
          refine wpQuiet_step (fun K hK => ?_)
          refine quiet_skip (by kernel_rfl) (hK _ ?_)
          clear hK K
          simp only [Act.put, List.setIfInBounds_toArray, List.set_cons_zero, List.set_cons_succ]
          refine wpQuiet_step (fun K hK => ?_)
          refine quiet_skip (by kernel_rfl) (hK _ ?_)
          clear hK K
          simp only [Act.put, List.setIfInBounds_toArray, List.set_cons_zero, List.set_cons_succ]
          refine wpQuiet_step (fun K hK => ?_)
          refine quiet_skip (by kernel_rfl) (hK _ ?_)
          clear hK K
          simp only [Act.put, List.setIfInBounds_toArray, List.set_cons_zero, List.set_cons_succ]
          refine wpQuiet_step (fun K hK => ?_)
          refine quiet_skip (by kernel_rfl) (hK _ ?_)
          clear hK K
          simp only [Act.put, List.setIfInBounds_toArray, List.set_cons_zero, List.set_cons_succ]
          refine wpQuiet_step (fun K hK => ?_)
          refine quiet_skip (by kernel_rfl) (hK _ ?_)
          clear hK K
          simp only [Act.put, List.setIfInBounds_toArray, List.set_cons_zero, List.set_cons_succ]
          refine wpQuiet_step (fun K hK => ?_)
          refine quiet_skip (by kernel_rfl) (hK _ ?_)
          clear hK K
          simp only [Act.put, List.setIfInBounds_toArray, List.set_cons_zero, List.set_cons_succ]
          refine wpQuiet_step (fun K hK => ?_)
          refine quiet_skip (by kernel_rfl) (hK _ ?_)
          clear hK K
          simp only [Act.put, List.setIfInBounds_toArray, List.set_cons_zero, List.set_cons_succ]
          refine wpQuiet_step (fun K hK => ?_)
          refine quiet_val (by rfl) (v := ?_) ?_ (hK _ ?_)
          rotate_left
          · (intro w hSw; go_simp; try with_reducible rfl)
          clear hK K
          simp only [Act.put, List.setIfInBounds_toArray, List.set_cons_zero, List.set_cons_succ]
          refine wpQuiet_step (fun K hK => ?_)
          refine quiet_val (by rfl) (v := .bool false) (fun w hSw => ?_) (hK _ ?_)
          · (go_simp; first | done | (simp; done) | exact GNI | (trace_state; exact sorryX))
          clear hK K
          simp only [Act.put, List.setIfInBounds_toArray, List.set_cons_zero, List.set_cons_succ]
          refine wpQuiet_nil ?_
          intro w7 hq
          have B7 := Lib.hid hq
          clear hq
          have J7 := Lib.hid (J6.out.grow B7.out)
          clear CN CM6 X6 R6 XA6
          have SM := Lib.hid (djSame J7.out GR.out)
          go_wp2_with (first
            | (go_at_call 19; refine SM.out.mono ?_; clear SM; rintro e wy ⟨rfl, hb⟩; have JY := Lib.hid (J7.out.grow hb); clear hb)
            | fail)
          go_roundw
          case rel => exact ⟨t + 1, _, _, _, _, _, _, HT.out.2, rfl, by first | exact congrArg _ KW.out | exact congrArg _ KW2.out, JY.out, GR.out⟩
          case measure => first | exact meas_up KW.out HT.out.2 | exact meas_up KW2.out HT.out.2
        by_cases hn1 : dn < (n : Int)
        rotate_left
        · have g0 : decide ((0 : Int) ≤ dn) = true := decide_eq_true h0
          have g1 : decide (dn < (n : Int)) = false := decide_eq_false hn1
          have hf : inn = false := by rw [← HIN.out]; exact decide_eq_false fun h => hn1 h.2
          subst hf
          refine wp_region_class (C := fun W => Below w6.heap.size w6 W) (by kernel_rfl) (by kernel_rfl) (BW6.out.drew) ?_
          refine wpQuiet_step (fun K hK => ?_)
          refine quiet_val (by rfl) (v := ?_) ?_ (hK _ ?_)
          rotate_left
          · (intro w hSw; go_simp; try with_reducible rfl)
          clear hK K
          simp only [Act.put, List.setIfInBounds_toArray, List.set_cons_zero, List.set_cons_succ]
          refine wpQuiet_step (fun K hK => ?_)
          refine quiet_val (by rfl) (v := ?_) ?_ (hK _ ?_)
          rotate_left
          · (intro w hSw; go_simp; try with_reducible rfl)
          clear hK K
          simp only [Act.put, List.setIfInBounds_toArray, List.set_cons_zero, List.set_cons_succ]
          refine wpQuiet_step (fun K hK => ?_)
          refine quiet_val (by rfl) (v := ?_) ?_ (hK _ ?_)
          rotate_left
          · (intro w hSw; have z := CN w hSw; go_simp; try with_reducible rfl)
          clear hK K
          simp only [Act.put, List.setIfInBounds_toArray, List.set_cons_zero, List.set_cons_succ]
          refine wpQuiet_step (fun K hK => ?_)
          refine quiet_val (by rfl) (v := .bool true) (fun w hSw => ?_) (hK _ ?_)
          · (go_simp; first | done | (simp; done) | exact GNI | (trace_state; exact sorryX))
          clear hK K
          simp only [Act.put, List.setIfInBounds_toArray, List.set_cons_zero, List.set_cons_succ]
          refine wpQuiet_step (fun K hK => ?_)
          refine quiet_val (by rfl) (v := ?_) ?_ (hK _ ?_)
          rotate_left
          · (intro w hSw; go_simp; try with_reducible rfl)
          clear hK K
          simp only [Act.put, List.setIfInBounds_toArray, List.set_cons_zero, List.set_cons_succ]
          refine wpQuiet_step (fun K hK => ?_)
          refine quiet_val (by rfl) (v := ?_) ?_ (hK _ ?_)
          rotate_left
          · (intro w hSw; go_simp; try with_reducible rfl)
          clear hK K
          simp only [Act.put, List.setIfInBounds_toArray, List.set_cons_zero, List.set_cons_succ]
          refine wpQuiet_step (fun K hK => ?_)
          refine quiet_val (by rfl) (v := ?_) ?_ (hK _ ?_)
          rotate_left
          · (intro w hSw; have z := CN w hSw; go_simp; try with_reducible rfl)
          clear hK K
          simp only [Act.put, List.setIfInBounds_toArray, List.set_cons_zero, List.set_cons_succ]
          refine wpQuiet_step (fun K hK => ?_)
          refine quiet_val (by rfl) (v := ?_) ?_ (hK _ ?_)
          rotate_left
          · (intro w hSw; go_simp; try with_reducible rfl)
          clear hK K
          simp only [Act.put, List.setIfInBounds_toArray, List.set_cons_zero, List.set_cons_succ]
          refine wpQuiet_step (fun K hK => ?_)
          refine quiet_val (by rfl) (v := ?_) ?_ (hK _ ?_)
          rotate_left
          · (intro w hSw; go_simp; try with_reducible rfl)
          clear hK K
          simp only [Act.put, List.setIfInBounds_toArray, List.set_cons_zero, List.set_cons_succ]
          refine wpQuiet_step (fun K hK => ?_)
          refine quiet_val (by rfl) (v := ?_) ?_ (hK _ ?_)
          rotate_left
          · (intro w hSw; go_simp; try with_reducible rfl)
          clear hK K
          simp only [Act.put, List.setIfInBounds_toArray, List.set_cons_zero, List.set_cons_succ]
          refine wpQuiet_step (fun K hK => ?_)
          refine quiet_val (by rfl) (v := ?_) ?_ (hK _ ?_)
          rotate_left
          · (intro w hSw; have z := CM6 w hSw; go_simp; try with_reducible rfl)
          clear hK K
          simp only [Act.put, List.setIfInBounds_toArray, List.set_cons_zero, List.set_cons_succ]
          refine wpQuiet_step (fun K hK => ?_)
          refine quiet_val (by rfl) (v := ?_) ?_ (hK _ ?_)
          rotate_left
          · (intro w hSw; go_simp; try with_reducible rfl)
          clear hK K
          simp only [Act.put, List.setIfInBounds_toArray, List.set_cons_zero, List.set_cons_succ]
          refine wpQuiet_step (fun K hK => ?_)
          refine quiet_val (by rfl) (v := .bool false) (fun w hSw => ?_) (hK _ ?_)
          · (go_simp; first | done | (simp; done) | exact GNI | (trace_state; exact sorryX))
          clear hK K
          simp only [Act.put, List.setIfInBounds_toArray, List.set_cons_zero, List.set_cons_succ]
          refine wpQuiet_step (fun K hK => ?_)
          refine quiet_val (by rfl) (v := ?_) ?_ (hK _ ?_)
          rotate_left
          · (intro w hSw; go_simp; try with_reducible rfl)
          clear hK K
          simp only [Act.put, List.setIfInBounds_toArray, List.set_cons_zero, List.set_cons_succ]
          refine wpQuiet_step (fun K hK => ?_)
          refine quiet_val (by rfl) (v := .bool false) (fun w hSw => ?_) (hK _ ?_)
          · (go_simp; first | done | (simp; done) | exact GNI | (trace_state; exact sorryX))
          clear hK K
          simp only [Act.put, List.setIfInBounds_toArray, List.set_cons_zero, List.set_cons_succ]
          refine wpQuiet_nil ?_
          intro w7 hq
          have B7 := Lib.hid hq
          clear hq
          have J7 := Lib.hid (J6.out.grow B7.out)
          clear CN CM6 X6 R6 XA6
          have SM := Lib.hid (djSame J7.out GR.out)
          go_wp2_with (first
            | (go_at_call 19; refine SM.out.mono ?_; clear SM; rintro e wy ⟨rfl, hb⟩; have JY := Lib.hid (J7.out.grow hb); clear hb)
            | fail)
          go_roundw
          case rel => exact ⟨t + 1, _, _, _, _, _, _, HT.out.2, rfl, by first | exact congrArg _ KW.out | exact congrArg _ KW2.out, JY.out, GR.out⟩
          case measure => first | exact meas_up KW.out HT.out.2 | exact meas_up KW2.out HT.out.2
        obtain ⟨i, rfl⟩ : ∃ i : Nat, dn = (i : Int) := ⟨dn.toNat, by omega⟩
        have g0 : decide ((0 : Int) ≤ (i : Int)) = true := decide_eq_true h0
        have g1 : decide ((i : Int) < (n : Int)) = true := decide_eq_true hn1
        have GNI : i < n := by omega
        have hf : inn = true := by rw [← HIN.out]; exact decide_eq_true ⟨h0, hn1⟩
        subst hf
        have hin : i < n := by omega
        have HI := Lib.hid hin
        have XCI : Hid (x.con = cs.getD i con00) := Lib.hid (by have := XC.out ⟨h0, hn1⟩; rwa [Int.toNat_natCast] at this)
        clear XC h0 hn1 hin
        refine wp_region_class (C := fun W => Below w6.heap.size w6 W) (by kernel_rfl) (by kernel_rfl) (BW6.out.drew) ?_
        refine wpQuiet_step (fun K hK => ?_)
        refine quiet_val (by rfl) (v := ?_) ?_ (hK _ ?_)
        rotate_left
        · (intro w hSw; go_simp; try with_reducible rfl)
        clear hK K
        simp only [Act.put, List.setIfInBounds_toArray, List.set_cons_zero, List.set_cons_succ]
        refine wpQuiet_step (fun K hK => ?_)
        refine quiet_val (by rfl) (v := ?_) ?_ (hK _ ?_)
        rotate_left
        · (intro w hSw; go_simp; try with_reducible rfl)
        clear hK K
        simp only [Act.put, List.setIfInBounds_toArray, List.set_cons_zero, List.set_cons_succ]
        refine wpQuiet_step (fun K hK => ?_)
        refine quiet_val (by rfl) (v := ?_) ?_ (hK _ ?_)
        rotate_left
        · (intro w hSw; have z := CN w hSw; go_simp; try with_reducible rfl)
        clear hK K
        simp only [Act.put, List.setIfInBounds_toArray, List.set_cons_zero, List.set_cons_succ]
        refine wpQuiet_step (fun K hK => ?_)
        refine quiet_val (by rfl) (v := .bool true) (fun w hSw => ?_) (hK _ ?_)
        · (go_simp; first | done | (simp; done) | exact GNI | (trace_state; exact sorryX))
        clear hK K
        simp only [Act.put, List.setIfInBounds_toArray, List.set_cons_zero, List.set_cons_succ]
        refine wpQuiet_step (fun K hK => ?_)
        refine quiet_val (by rfl) (v := ?_) ?_ (hK _ ?_)
        rotate_left
        · (intro w hSw; go_simp; try with_reducible rfl)
        clear hK K
        simp only [Act.put, List.setIfInBounds_toArray, List.set_cons_zero, List.set_cons_succ]
        refine wpQuiet_step (fun K hK => ?_)
        refine quiet_val (by rfl) (v := ?_) ?_ (hK _ ?_)
        rotate_left
        · (intro w hSw; go_simp; try with_reducible rfl)
        clear hK K
        simp only [Act.put, List.setIfInBounds_toArray, List.set_cons_zero, List.set_cons_succ]
        refine wpQuiet_step (fun K hK => ?_)
        refine quiet_val (by rfl) (v := ?_) ?_ (hK _ ?_)
        rotate_left
        · (intro w hSw; have z := CN w hSw; go_simp; try with_reducible rfl)
        clear hK K
        simp only [Act.put, List.setIfInBounds_toArray, List.set_cons_zero, List.set_cons_succ]
        refine wpQuiet_step (fun K hK => ?_)
        refine quiet_val (by rfl) (v := ?_) ?_ (hK _ ?_)
        rotate_left
        · (intro w hSw; go_simp; try with_reducible rfl)
        clear hK K
        simp only [Act.put, List.setIfInBounds_toArray, List.set_cons_zero, List.set_cons_succ]
        refine wpQuiet_step (fun K hK => ?_)
        refine quiet_val (by rfl) (v := ?_) ?_ (hK _ ?_)
        rotate_left
        · (intro w hSw; go_simp; try with_reducible rfl)
        clear hK K
        simp only [Act.put, List.setIfInBounds_toArray, List.set_cons_zero, List.set_cons_succ]
        refine wpQuiet_step (fun K hK => ?_)
        refine quiet_val (by rfl) (v := ?_) ?_ (hK _ ?_)
        rotate_left
        · (intro w hSw; go_simp; try with_reducible rfl)
        clear hK K
        simp only [Act.put, List.setIfInBounds_toArray, List.set_cons_zero, List.set_cons_succ]
        refine wpQuiet_step (fun K hK => ?_)
        refine quiet_val (by rfl) (v := ?_) ?_ (hK _ ?_)
        rotate_left
        · (intro w hSw; have z := CM6 w hSw; go_simp; try with_reducible rfl)
        clear hK K
        simp only [Act.put, List.setIfInBounds_toArray, List.set_cons_zero, List.set_cons_succ]
        refine wpQuiet_step (fun K hK => ?_)
        refine quiet_val (by rfl) (v := ?_) ?_ (hK _ ?_)
        rotate_left
        · (intro w hSw; go_simp; try with_reducible rfl)
        clear hK K
        simp only [Act.put, List.setIfInBounds_toArray, List.set_cons_zero, List.set_cons_succ]
        refine wpQuiet_step (fun K hK => ?_)
        refine quiet_val (by rfl) (v := .bool true) (fun w hSw => ?_) (hK _ ?_)
        · (go_simp; first | done | (simp; done) | exact GNI | (trace_state; exact sorryX))
        clear hK K
        simp only [Act.put, List.setIfInBounds_toArray, List.set_cons_zero, List.set_cons_succ]
        refine wpQuiet_step (fun K hK => ?_)
        refine quiet_val (by rfl) (v := ?_) ?_ (hK _ ?_)
        rotate_left
        · (intro w hSw; go_simp; try with_reducible rfl)
        clear hK K
        simp only [Act.put, List.setIfInBounds_toArray, List.set_cons_zero, List.set_cons_succ]
        refine wpQuiet_step (fun K hK => ?_)
        refine quiet_val (by rfl) (v := .bool false) (fun w hSw => ?_) (hK _ ?_)
        · (go_simp; first | done | (simp; done) | exact GNI | (trace_state; exact sorryX))
        clear hK K
        simp only [Act.put, List.setIfInBounds_toArray, List.set_cons_zero, List.set_cons_succ]
        refine wpQuiet_nil ?_
        intro w7 hq
        have B7 := Lib.hid hq
        clear hq
        have J7 := Lib.hid (J6.out.grow B7.out)
        have X7 : Hid (BL w7 XB (ddV ⟨5, (i : Int), dm, ⟨s, a, o, k⟩⟩) 35) := Lib.hid (bl_keep X6.out (B7.out.block XB (bl_lt X6.out)))
        have R7 : Hid (BL w7 X1 (sdV x) 53) := Lib.hid (bl_keep R6.out (B7.out.block X1 (bl_lt R6.out)))
        have XA7 : Hid (SdAt w7 (fun q => q < wv.heap.size ∨ X1 ≤ q) x) := Lib.hid (XA6.out.grow B7.out)
        have VW7 : Hid (Below wv.heap.size wv w7) := Lib.hid (VW6.out.trans (B7.out.mono VW6.out.size))
        clear CN CM6 X6 R6 XA6 J6 BW6 B7
        obtain ⟨G, hG⟩ : ∃ G, w7.heap.size = G := ⟨_, rfl⟩
        have XG : Hid (X1 < G) := Lib.hid (by rw [← hG]; exact bl_lt R7.out)
        have RA : Hid (BL (w7.alloc (Obj.cells #[.int .i64 1, .int .i64 4] 3)) X1 (sdV x) 53) := Lib.hid (bl_keep R7.out (Below.heap_alloc _ _ _ (by rw [hG]; exact XG.out)))
        have RB : Hid (BL ((w7.alloc (Obj.cells #[.int .i64 1, .int .i64 4] 3)).setCell ⟨X1, 9, none⟩ (.bool true)) X1 ((sdV x).set 9 (.bool true)) 53) := Lib.hid (bl_set RA.out 9 _)
        have RC : Hid (BL (((w7.alloc (Obj.cells #[.int .i64 1, .int .i64 4] 3)).setCell ⟨X1, 9, none⟩ (.bool true)).setCell ⟨X1, 10, none⟩ (.int .i64 9)) X1 (((sdV x).set 9 (.bool true)).set 10 (.int .i64 9)) 53) := Lib.hid (bl_set RB.out 10 _)
        have RD : Hid (BL ((((w7.alloc (Obj.cells #[.int .i64 1, .int .i64 4] 3)).setCell ⟨X1, 9, none⟩ (.bool true)).setCell ⟨X1, 10, none⟩ (.int .i64 9)).setCell ⟨X1, 41, none⟩ (.slice (some ⟨G, 0, none⟩) 2 2)) X1 (sdV (x.ceased ⟨some ⟨G, 0, none⟩, 2, 2, [.int .i64 1, .int .i64 4]⟩)) 53) := Lib.hid (by
          have := bl_set RC.out 41 (.slice (some ⟨G, 0, none⟩) 2 2)
          exact (sd_ceased x ⟨some ⟨G, 0, none⟩, 2, 2, [.int .i64 1, .int .i64 4]⟩) ▸ this)
        have a9 := sd_c9 RA.out
        have f9 := bl_free RA.out 9
        have a10 := cx10 RB.out
        have f10 := bl_free RB.out 10
        have a41 := cx41 RC.out
        have f41 := bl_free RC.out 41
        have RG : Hid (BL ((((w7.alloc (Obj.cells #[.int .i64 1, .int .i64 4] 3)).setCell ⟨X1, 9, none⟩ (.bool true)).setCell ⟨X1, 10, none⟩ (.int .i64 9)).setCell ⟨X1, 41, none⟩ (.slice (some ⟨G, 0, none⟩) 2 2)) G [.int .i64 1, .int .i64 4] 3) := Lib.hid (bl_keep (by rw [← hG]; exact heap_alloc_last w7 _) ((heap_set1 _ _ _ (by have := XG.out; omega)).trans ((heap_set1 _ _ _ (by have := XG.out; omega)).trans (heap_set1 _ _ _ (by have := XG.out; omega)))))
        have FX : Hid (Fr w7 ((((w7.alloc (Obj.cells #[.int .i64 1, .int .i64 4] 3)).setCell ⟨X1, 9, none⟩ (.bool true)).setCell ⟨X1, 10, none⟩ (.int .i64 9)).setCell ⟨X1, 41, none⟩ (.slice (some ⟨G, 0, none⟩) 2 2)) (fun q => q = X1)) := Lib.hid ((((Fr.of_below (P := fun q => q = X1) (below_alloc0 w7 _)).trans (fr_cellF _ X1 9 _) fun q h => .inl h).trans (fr_cellF _ X1 10 _) fun q h => .inl h).trans (fr_cellF _ X1 41 _) fun q h => .inl h)
        have BX : Hid (Below X1 w7 ((((w7.alloc (Obj.cells #[.int .i64 1, .int .i64 4] 3)).setCell ⟨X1, 9, none⟩ (.bool true)).setCell ⟨X1, 10, none⟩ (.int .i64 9)).setCell ⟨X1, 41, none⟩ (.slice (some ⟨G, 0, none⟩) 2 2))) := Lib.hid (FX.out.below (Nat.le_of_lt (bl_lt R7.out)) fun q e => Nat.le_of_eq e.symm)
        clear RA RB RC g0 g1 GNI
        go_upto_region 31 with (fail)
        generalize ((((w7.alloc (Obj.cells #[.int .i64 1, .int .i64 4] 3)).setCell ⟨X1, 9, none⟩ (.bool true)).setCell ⟨X1, 10, none⟩ (.int .i64 9)).setCell ⟨X1, 41, none⟩ (.slice (some ⟨G, 0, none⟩) 2 2)) = w8 at *
        clear a9 f9 a10 f10 a41 f41
        have VW8 : Hid (Below wv.heap.size wv w8) := Lib.hid (VW7.out.trans (BX.out.mono HX1.out))
        have J8 := Lib.hid (JV.out.grow VW8.out)
        have X8 : Hid (BL w8 XB (ddV ⟨5, (i : Int), dm, ⟨s, a, o, k⟩⟩) 35) := Lib.hid (bl_keep X7.out (BX.out.block XB (Nat.lt_of_lt_of_le (bl_lt RX.out) HX1.out)))
        obtain ⟨xU, hxU⟩ : ∃ y, x.ceased ⟨some ⟨G, 0, none⟩, 2, 2, [.int .i64 1, .int .i64 4]⟩ = y := ⟨_, rfl⟩
        have XU : Hid (SdAt w8 (apP S m M A) xU) := Lib.hid (by
          have h8 : SdAt w8 (fun q => q < wv.heap.size ∨ X1 ≤ q) x := XA7.out.keep FX.out.size (fun q hq hn => BX.out.block q (by omega)) fun _ _ h => h
          have h9 := h8.weakF (P' := apP S m M A) fun q _ hq => .inl (JV.out.ltP q hq)
          rw [← hxU]
          exact ⟨h9.K, h9.O, h9.G, rf_14 RG.out fun hq => by have := JV.out.ltP G hq; have := HX1.out; have := XG.out; omega⟩)
        have XUC : Hid (xU.con = ceC (cs.getD i con00)) := Lib.hid (by rw [← hxU, ← XCI.out]; exact ceased_con x G)
        rw [hxU] at RD
        have LCI : Hid (i < cs.length) := Lib.hid (by rw [LC.out]; exact HI.out)
        have CST := djSet J8.out (by rw [LC.out]; exact JV.out.len) i LCI.out xU XU.out
        rw [XUC.out] at CST
        obtain ⟨cc, hcc⟩ : ∃ l, putS cs i (ceC (cs.getD i con00)) = l := ⟨_, rfl⟩
        have GC : Hid (goodL cc) := Lib.hid (by rw [← hcc]; exact good_set GR.out (good_ce (good_at GR.out LCI.out)))
        rw [hcc] at CST
        have CST := Lib.hid CST
        have HCC := Lib.hid hcc
        have a1 := (dd_c0 X8.out).2.1
        have sU : Hid ((sdV xU).length = 42) := Lib.hid (sd_len xU)
        clear hG hxU hcc XU XUC X7 R7 XA7 J7 VW6 VW7 BX FX RG XCI
        go_upto_region 33 with (first
          | (refine wpList_load_midG (by rfl) 53 (.tmp 12) rfl X1 0 rfl (sdV xU) _ (range_of RD.out) Try.underlying53 rfl (szL sz53 sU.out) ?_)
          | (go_at_call 17; refine CST.out.mono ?_; clear CST; rintro e w9 ⟨rfl, m9, j9, f9⟩; have J9 := Lib.hid j9; have F9 := Lib.hid f9; clear j9 f9)
          | fail)
        have X9 : Hid (BL w9 XB (ddV ⟨5, (i : Int), dm, ⟨s, a, o, k⟩⟩) 35) := Lib.hid (bl_keep X8.out (F9.out.block XB (bl_lt X8.out) fun hp => J8.out.notP X8.out (by decide) (by decide) (by decide) (.inl hp)))
        clear a1 RD X8 J8 F9 VW8 XG RX JV HX1
        obtain ⟨bd, od, y, rfl, yc, ya, hl, hr⟩ := J9.out.rowD i HI.out
        have YC := Lib.hid yc
        have YA := Lib.hid ya
        have LB := Lib.hid hl
        have HR := Lib.hid hr
        have sy : Hid ((sdV y).length = 42) := Lib.hid (sd_len y)
        have B99 : Hid (Below w9.heap.size w9 w9) := Lib.hid (Below.refl _ _)
        have CN : ∀ W, Below w9.heap.size w9 W → W.cell? ⟨XB, 1, none⟩ = some (.int .i64 (i : Int)) := fun W hb => (dd_c0 (bl_keep X9.out (hb.block XB (bl_lt X9.out)))).2.1
        have CM9 : ∀ W, Below w9.heap.size w9 W → W.cell? ⟨M, 0, none⟩ = some (.slice (some ⟨bd, od, none⟩) n c) := fun W hb => (J9.out.grow hb).c0
        have CR9 : ∀ W, Below w9.heap.size w9 W → W.rangeAt bd (od + i * 42) (sdV y) := fun W hb => range_keep1 HR.out (hb.block bd LB.out)
        have i0 : (0 : Int) ≤ (i : Int) := by omega
        have i1 : (i : Int) < (n : Int) := by have := HI.out; omega
        clear yc ya hl hr
        refine wp_region_end 9 (S := fun W => Below w9.heap.size w9 W) (by kernel_rfl) (by kernel_rfl) B99.out.drew (fun hHeld => ?_)
        refine wpAnyH_take (i := 0) (v := ?_) rfl (by kernel_rfl) (by kernel_rfl) (by kernel_rfl) (fun _ _ _ h => h) (Or.inl ⟨by rfl, ?_⟩) (by assumption) ?_
        rotate_left
        · (intro w hSw; (try dsimp only at hSw); go_simp; try with_reducible rfl)
        simp only [Act.put, List.getElem_toArray, List.getElem_cons_zero, List.setIfInBounds_toArray, List.set_cons_zero, List.set_cons_succ]
        refine wpAnyH_take (i := 1) (v := ?_) rfl (by kernel_rfl) (by kernel_rfl) (by kernel_rfl) (fun _ _ _ h => h) (Or.inl ⟨by rfl, ?_⟩) (by assumption) ?_
        rotate_left
        · (intro w hSw; (try dsimp only at hSw); go_simp; try with_reducible rfl)
        simp only [Act.put, List.getElem_toArray, List.getElem_cons_succ, List.getElem_cons_zero, List.setIfInBounds_toArray, List.set_cons_zero, List.set_cons_succ]
        refine wpAnyH_take (i := 2) (v := ?_) rfl (by kernel_rfl) (by kernel_rfl) (by kernel_rfl) (fun _ _ _ h => h) (Or.inl ⟨by rfl, ?_⟩) (by assumption) ?_
        rotate_left
        · (intro w hSw; (try dsimp only at hSw); go_simp; try with_reducible rfl)
        simp only [Act.put, List.getElem_toArray, List.getElem_cons_succ, List.getElem_cons_zero, List.setIfInBounds_toArray, List.set_cons_zero, List.set_cons_succ]
        refine wpAnyH_take (i := 3) (v := ?_) rfl (by kernel_rfl) (by kernel_rfl) (by kernel_rfl) (fun _ _ _ h => h) (Or.inl ⟨by rfl, ?_⟩) (by assumption) ?_
        rotate_left
        · (intro w hSw; have z := CM9 w hSw; go_simp; try with_reducible rfl)
        simp only [Act.put, List.getElem_toArray, List.getElem_cons_succ, List.getElem_cons_zero, List.setIfInBounds_toArray, List.set_cons_zero, List.set_cons_succ]
        refine wpAnyH_take (i := 4) (v := ?_) rfl (by kernel_rfl) (by kernel_rfl) (by kernel_rfl) (fun _ _ _ h => h) (Or.inl ⟨by rfl, ?_⟩) (by assumption) ?_
        rotate_left
        · (intro w hSw; (try dsimp only at hSw); go_simp; try with_reducible rfl)
        simp only [Act.put, List.getElem_toArray, List.getElem_cons_succ, List.getElem_cons_zero, List.setIfInBounds_toArray, List.set_cons_zero, List.set_cons_succ]
        refine wpAnyH_take (i := 5) (v := ?_) rfl (by kernel_rfl) (by kernel_rfl) (by kernel_rfl) (fun _ _ _ h => h) (Or.inl ⟨by rfl, ?_⟩) (by assumption) ?_
        rotate_left
        · (intro w hSw; have z := CN w hSw; go_simp; try with_reducible rfl)
        simp only [Act.put, List.getElem_toArray, List.getElem_cons_succ, List.getElem_cons_zero, List.setIfInBounds_toArray, List.set_cons_zero, List.set_cons_succ]
        refine wpAnyH_take (i := 6) (v := ?_) rfl (by kernel_rfl) (by kernel_rfl) (by kernel_rfl) (fun _ _ _ h => h) (Or.inl ⟨by rfl, ?_⟩) (by assumption) ?_
        rotate_left
        · (intro w hSw; (try dsimp only at hSw); go_simp; try with_reducible rfl)
        simp only [Act.put, List.getElem_toArray, List.getElem_cons_succ, List.getElem_cons_zero, List.setIfInBounds_toArray, List.set_cons_zero, List.set_cons_succ]
        refine wpAnyH_take (i := 7) rfl (by kernel_rfl) (by kernel_rfl) (by kernel_rfl) (fun _ _ _ h => h) (yieldsIf_load_mid (by rfl) 57 (.tmp 130) rfl bd (od + i * 42) rfl (sdV y) _ (fun w h => CR9 w h) Try.underlying57 rfl (szL sz57 sy.out)) (by assumption) ?_
        simp only [Act.put, List.getElem_toArray, List.getElem_cons_succ, List.getElem_cons_zero, List.setIfInBounds_toArray, List.set_cons_zero, List.set_cons_succ]
        refine wpAnyH_ready (rs := [8]) (by kernel_rfl) (by simp) ?_
        refine AllReadyH.cons rfl (fun K hK => ?_) AllReadyH.nil
        go_simp
        have BA : Hid (Below w9.heap.size w9 (w9.alloc (Obj.cells (sdV sm0).toArray 57)).drew) := Lib.hid (B99.out.alloc (Nat.le_refl _) _).drew
        have RBY : Hid (BL (w9.alloc (Obj.cells (sdV sm0).toArray 57)).drew w9.heap.size (sdV sm0) 57) := Lib.hid (heap_alloc_last w9 _)
        generalize (w9.alloc (Obj.cells (sdV sm0).toArray 57)).drew = wa at *
        refine hK.out _ _ BA.out (fun hHeld => ?_)
        clear hK K
        clear hHeld
        refine wpAnyH_done (by kernel_rfl) ?_ _
        refine qn_last rfl (by rfl) ?_
        have TB : Hid (wa.there w9.heap.size 0 (sdV y).toArray.size) := Lib.hid fun j hj => by
          have hj : j < 42 := by rw [List.size_toArray, sy.out] at hj; exact hj
          refine ⟨?_, bl_free RBY.out _⟩
          have := (range_of RBY.out).isSome j (by rw [s0.out]; exact hj)
          exact this
        refine wp_store_mid 57 (.tmp 14) (.tmp 131) rfl w9.heap.size 0 (sdV y).toArray rfl rfl TB.out (szA sz57 sy.out) (all_oneCell_toArray (sd_one y)) ?_
        have RY : Hid (BL (wa.setCells w9.heap.size 0 (sdV y)) w9.heap.size (sdV y) 57) := Lib.hid (by
          have := bl_sets (sdV y) 0 RBY.out (by rw [sy.out, s0.out]; exact Nat.le_refl _)
          rw [Nat.zero_add, List.take_zero, List.nil_append, sy.out, List.drop_of_length_le (by rw [s0.out]; exact Nat.le_refl _), List.append_nil] at this
          exact this)
        have B10 : Hid (Below w9.heap.size w9 (wa.setCells w9.heap.size 0 (sdV y))) := Lib.hid (below_setCells (Nat.le_refl _) _ _ BA.out)
        rw [show (sdV y).toArray.toList = sdV y by rw [List.toList_toArray]]
        generalize wa.setCells w9.heap.size 0 (sdV y) = w10 at *
        obtain ⟨Y1, hY1⟩ : ∃ q, w9.heap.size = q := ⟨_, rfl⟩
        have ZY := Lib.hid hY1
        rw [hY1] at RY ⊢
        clear hY1
        clear TB BA RBY CN CM9 CR9
        obtain ⟨G, hG⟩ : ∃ G, w10.heap.size = G := ⟨_, rfl⟩
        have XG : Hid (Y1 < G) := Lib.hid (by rw [← hG]; exact bl_lt RY.out)
        have RA : Hid (BL (w10.alloc (Obj.cells #[.int .i64 1, .int .i64 4] 3)) Y1 (sdV y) 57) := Lib.hid (bl_keep RY.out (Below.heap_alloc _ _ _ (by rw [hG]; exact XG.out)))
        have RB : Hid (BL ((w10.alloc (Obj.cells #[.int .i64 1, .int .i64 4] 3)).setCell ⟨Y1, 9, none⟩ (.bool true)) Y1 ((sdV y).set 9 (.bool true)) 57) := Lib.hid (bl_set RA.out 9 _)
        have RC : Hid (BL (((w10.alloc (Obj.cells #[.int .i64 1, .int .i64 4] 3)).setCell ⟨Y1, 9, none⟩ (.bool true)).setCell ⟨Y1, 10, none⟩ (.int .i64 9)) Y1 (((sdV y).set 9 (.bool true)).set 10 (.int .i64 9)) 57) := Lib.hid (bl_set RB.out 10 _)
        have RD : Hid (BL ((((w10.alloc (Obj.cells #[.int .i64 1, .int .i64 4] 3)).setCell ⟨Y1, 9, none⟩ (.bool true)).setCell ⟨Y1, 10, none⟩ (.int .i64 9)).setCell ⟨Y1, 41, none⟩ (.slice (some ⟨G, 0, none⟩) 2 2)) Y1 (sdV (y.ceased ⟨some ⟨G, 0, none⟩, 2, 2, [.int .i64 1, .int .i64 4]⟩)) 57) := Lib.hid (by
          have := bl_set RC.out 41 (.slice (some ⟨G, 0, none⟩) 2 2)
          exact (sd_ceased y ⟨some ⟨G, 0, none⟩, 2, 2, [.int .i64 1, .int .i64 4]⟩) ▸ this)
        have a9 := sd_c9 RA.out
        have f9 := bl_free RA.out 9
        have a10 := cx10 RB.out
        have f10 := bl_free RB.out 10
        have a41 := cx41 RC.out
        have f41 := bl_free RC.out 41
        have RG : Hid (BL ((((w10.alloc (Obj.cells #[.int .i64 1, .int .i64 4] 3)).setCell ⟨Y1, 9, none⟩ (.bool true)).setCell ⟨Y1, 10, none⟩ (.int .i64 9)).setCell ⟨Y1, 41, none⟩ (.slice (some ⟨G, 0, none⟩) 2 2)) G [.int .i64 1, .int .i64 4] 3) := Lib.hid (bl_keep (by rw [← hG]; exact heap_alloc_last w10 _) ((heap_set1 _ _ _ (by have := XG.out; omega)).trans ((heap_set1 _ _ _ (by have := XG.out; omega)).trans (heap_set1 _ _ _ (by have := XG.out; omega)))))
        have FX : Hid (Fr w10 ((((w10.alloc (Obj.cells #[.int .i64 1, .int .i64 4] 3)).setCell ⟨Y1, 9, none⟩ (.bool true)).setCell ⟨Y1, 10, none⟩ (.int .i64 9)).setCell ⟨Y1, 41, none⟩ (.slice (some ⟨G, 0, none⟩) 2 2)) (fun q => q = Y1)) := Lib.hid ((((Fr.of_below (P := fun q => q = Y1) (below_alloc0 w10 _)).trans (fr_cellF _ Y1 9 _) fun q h => .inl h).trans (fr_cellF _ Y1 10 _) fun q h => .inl h).trans (fr_cellF _ Y1 41 _) fun q h => .inl h)
        have B11 : Hid (Below w9.heap.size w9 ((((w10.alloc (Obj.cells #[.int .i64 1, .int .i64 4] 3)).setCell ⟨Y1, 9, none⟩ (.bool true)).setCell ⟨Y1, 10, none⟩ (.int .i64 9)).setCell ⟨Y1, 41, none⟩ (.slice (some ⟨G, 0, none⟩) 2 2))) := Lib.hid (B10.out.trans (FX.out.below B10.out.size fun q e => by rw [e]; exact Nat.le_of_eq ZY.out))
        clear RA RB RC i0 i1
        go_upto_region 35 with (fail)
        generalize ((((w10.alloc (Obj.cells #[.int .i64 1, .int .i64 4] 3)).setCell ⟨Y1, 9, none⟩ (.bool true)).setCell ⟨Y1, 10, none⟩ (.int .i64 9)).setCell ⟨Y1, 41, none⟩ (.slice (some ⟨G, 0, none⟩) 2 2)) = w11 at *
        clear a9 f9 a10 f10 a41 f41
        have J11 := Lib.hid (J9.out.grow B11.out)
        have X11 : Hid (BL w11 XB (ddV ⟨5, (i : Int), dm, ⟨s, a, o, k⟩⟩) 35) := Lib.hid (bl_keep X9.out (B11.out.block XB (bl_lt X9.out)))
        obtain ⟨yU, hyU⟩ : ∃ z, y.ceased ⟨some ⟨G, 0, none⟩, 2, 2, [.int .i64 1, .int .i64 4]⟩ = z := ⟨_, rfl⟩
        have YU : Hid (SdAt w11 (apP S m9 M (some ⟨bd, od, none⟩)) yU) := Lib.hid (by
          have h9 := YA.out.grow B11.out
          rw [← hyU]
          exact ⟨h9.K, h9.O, h9.G, rf_14 RG.out fun hq => by have := J9.out.ltP G hq; have := XG.out; have := ZY.out; omega⟩)
        have YUC : Hid (yU.con = ceC (cs.getD i con00)) := Lib.hid (by rw [← hyU, ← YC.out]; exact ceased_con y G)
        rw [hyU] at RD
        have syU : Hid ((sdV yU).length = 42) := Lib.hid (sd_len yU)
        have B1111 : Hid (Below w11.heap.size w11 w11) := Lib.hid (Below.refl _ _)
        have CN : ∀ W, Below w11.heap.size w11 W → W.cell? ⟨XB, 1, none⟩ = some (.int .i64 (i : Int)) := fun W hb => (dd_c0 (bl_keep X11.out (hb.block XB (bl_lt X11.out)))).2.1
        have CM11 : ∀ W, Below w11.heap.size w11 W → W.cell? ⟨M, 0, none⟩ = some (.slice (some ⟨bd, od, none⟩) n c) := fun W hb => (J11.out.grow hb).c0
        have CB11 : ∀ W, Below w11.heap.size w11 W → W.rangeAt Y1 0 (sdV yU) := fun W hb => range_keep1 (range_of RD.out) (hb.block Y1 (bl_lt RD.out))
        have i0 : (0 : Int) ≤ (i : Int) := by omega
        have i1 : (i : Int) < (n : Int) := by have := HI.out; omega
        clear hG hyU RG FX B10 B11 XG ZY YA YC X9 J9 LB HR
        refine wp_region_end 8 (S := fun W => Below w11.heap.size w11 W) (by kernel_rfl) (by kernel_rfl) B1111.out.drew (fun hHeld => ?_)
        refine wpAnyH_take (i := 0) (v := ?_) rfl (by kernel_rfl) (by kernel_rfl) (by kernel_rfl) (fun _ _ _ h => h) (Or.inl ⟨by rfl, ?_⟩) (by assumption) ?_
        rotate_left
        · (intro w hSw; (try dsimp only at hSw); go_simp; try with_reducible rfl)
        simp only [Act.put, List.getElem_toArray, List.getElem_cons_zero, List.setIfInBounds_toArray, List.set_cons_zero, List.set_cons_succ]
        refine wpAnyH_take (i := 1) (v := ?_) rfl (by kernel_rfl) (by kernel_rfl) (by kernel_rfl) (fun _ _ _ h => h) (Or.inl ⟨by rfl, ?_⟩) (by assumption) ?_
        rotate_left
        · (intro w hSw; (try dsimp only at hSw); go_simp; try with_reducible rfl)
        simp only [Act.put, List.getElem_toArray, List.getElem_cons_succ, List.getElem_cons_zero, List.setIfInBounds_toArray, List.set_cons_zero, List.set_cons_succ]
        refine wpAnyH_take (i := 2) (v := ?_) rfl (by kernel_rfl) (by kernel_rfl) (by kernel_rfl) (fun _ _ _ h => h) (Or.inl ⟨by rfl, ?_⟩) (by assumption) ?_
        rotate_left
        · (intro w hSw; (try dsimp only at hSw); go_simp; try with_reducible rfl)
        simp only [Act.put, List.getElem_toArray, List.getElem_cons_succ, List.getElem_cons_zero, List.setIfInBounds_toArray, List.set_cons_zero, List.set_cons_succ]
        refine wpAnyH_take (i := 3) (v := ?_) rfl (by kernel_rfl) (by kernel_rfl) (by kernel_rfl) (fun _ _ _ h => h) (Or.inl ⟨by rfl, ?_⟩) (by assumption) ?_
        rotate_left
        · (intro w hSw; have z := CM11 w hSw; go_simp; try with_reducible rfl)
        simp only [Act.put, List.getElem_toArray, List.getElem_cons_succ, List.getElem_cons_zero, List.setIfInBounds_toArray, List.set_cons_zero, List.set_cons_succ]
        refine wpAnyH_take (i := 4) (v := ?_) rfl (by kernel_rfl) (by kernel_rfl) (by kernel_rfl) (fun _ _ _ h => h) (Or.inl ⟨by rfl, ?_⟩) (by assumption) ?_
        rotate_left
        · (intro w hSw; (try dsimp only at hSw); go_simp; try with_reducible rfl)
        simp only [Act.put, List.getElem_toArray, List.getElem_cons_succ, List.getElem_cons_zero, List.setIfInBounds_toArray, List.set_cons_zero, List.set_cons_succ]
        refine wpAnyH_take (i := 5) (v := ?_) rfl (by kernel_rfl) (by kernel_rfl) (by kernel_rfl) (fun _ _ _ h => h) (Or.inl ⟨by rfl, ?_⟩) (by assumption) ?_
        rotate_left
        · (intro w hSw; have z := CN w hSw; go_simp; try with_reducible rfl)
        simp only [Act.put, List.getElem_toArray, List.getElem_cons_succ, List.getElem_cons_zero, List.setIfInBounds_toArray, List.set_cons_zero, List.set_cons_succ]
        refine wpAnyH_take (i := 6) rfl (by kernel_rfl) (by kernel_rfl) (by kernel_rfl) (fun _ _ _ h => h) (yieldsIf_load_mid (by rfl) 57 (.tmp 14) rfl Y1 (0) rfl (sdV yU) _ (fun w h => CB11 w h) Try.underlying57 rfl (szL sz57 syU.out)) (by assumption) ?_
        simp only [Act.put, List.getElem_toArray, List.getElem_cons_succ, List.getElem_cons_zero, List.setIfInBounds_toArray, List.set_cons_zero, List.set_cons_succ]
        refine wpAnyH_take (i := 7) (v := ?_) rfl (by kernel_rfl) (by kernel_rfl) (by kernel_rfl) (fun _ _ _ h => h) (Or.inl ⟨by rfl, ?_⟩) (by assumption) ?_
        rotate_left
        · (intro w hSw; (try dsimp only at hSw); go_simp; try with_reducible rfl)
        simp only [Act.put, List.getElem_toArray, List.getElem_cons_succ, List.getElem_cons_zero, List.setIfInBounds_toArray, List.set_cons_zero, List.set_cons_succ]
        clear hHeld
        refine wpAnyH_done (by kernel_rfl) ?_ _
        refine qn_last rfl (by rfl) ?_
        have JD : Hid (DJ N w w11.drew S m9 M (some ⟨bd, od, none⟩) n c cc cs) := Lib.hid (J11.out.grow B1111.out.drew)
        have YD : Hid (SdAt w11.drew (apP S m9 M (some ⟨bd, od, none⟩)) yU) := Lib.hid (YU.out.grow B1111.out.drew)
        have PD := djPutD JD.out i HI.out yU YD.out
        rw [YUC.out, HCC.out] at PD
        have TB : Hid (w11.drew.there bd (od + i * 42) (sdV yU).toArray.size) := Lib.hid (by rw [List.size_toArray, syU.out]; exact PD.1)
        refine wp_store_mid 57 (.tmp 143) (.tmp 142) rfl bd (od + i * 42) (sdV yU).toArray rfl rfl TB.out (szA sz57 syU.out) (all_oneCell_toArray (sd_one _)) ?_
        rw [show (sdV yU).toArray.toList = sdV yU by rw [List.toList_toArray]]
        have J12 := Lib.hid PD.2
        generalize w11.drew.setCells bd (od + i * 42) (sdV yU) = w12 at *
        clear CN CM11 CB11 JD YD PD TB J11 X11 RD YU i0 i1
        have SM := Lib.hid (djSame J12.out GC.out)
        go_wp2_with (first
          | (go_at_call 19; refine SM.out.mono ?_; clear SM; rintro e wy ⟨rfl, hb⟩; have JY := Lib.hid (J12.out.grow hb); clear hb)
          | fail)
        go_roundw
        case rel => exact ⟨t + 1, _, _, _, _, _, _, HT.out.2, rfl, by first | exact congrArg _ KW.out | exact congrArg _ KW2.out, JY.out, GC.out⟩
        case measure => first | exact meas_up KW.out HT.out.2 | exact meas_up KW2.out HT.out.2
      by_cases e6 : dd = 6
      · subst e6
        clear e0 e1 e2 e3 e4 e5 a1 a2
        have CC := Lib.hid (djCopy1 JV.out (JV.out.len2 ▸ JV.out.len) GR.out)
        clear RX
        go_upto_region 41 with (first
          | (go_at_call 18; refine CC.out.mono ?_; clear CC; rintro e w5 ⟨S5, m5, rfl, j5, b5, k5⟩; have J5 := Lib.hid j5; have K5 := Lib.hid (k5 w5 (Below.refl _ _)); clear j5 b5 k5)
          | fail)
        clear JV J5
        go_upto_region 42 with (first
          | (go_at_call 14; refine K5.out.mono ?_; clear K5; rintro e w6 ⟨⟨r6, rfl⟩, j6⟩; have J6 := Lib.hid j6; clear j6)
          | fail)
        have SM := Lib.hid (djSame J6.out GR.out)
        go_wp2_with (first
          | (go_at_call 19; refine SM.out.mono ?_; clear SM; rintro e wy ⟨rfl, hb⟩; have JY := Lib.hid (J6.out.grow hb); clear hb)
          | fail)
        go_roundw
        case rel => exact ⟨t + 1, _, _, _, _, _, _, HT.out.2, rfl, by first | exact congrArg _ KW.out | exact congrArg _ KW2.out, JY.out, GR.out⟩
        case measure => first | exact meas_up KW.out HT.out.2 | exact meas_up KW2.out HT.out.2
      clear a1 a2
      have q0 : (dd == 0) = false := beq_false_of_ne e0
      have q1 : (dd == 1) = false := beq_false_of_ne e1
      have q2 : (dd == 2) = false := beq_false_of_ne e2
      have q3 : (dd == 3) = false := beq_false_of_ne e3
      have q4 : (dd == 4) = false := beq_false_of_ne e4
      have q5 : (dd == 5) = false := beq_false_of_ne e5
      have q6 : (dd == 6) = false := beq_false_of_ne e6
      clear RX
      have SM := Lib.hid (djSame JV.out GR.out)
      go_wp2_with (first
        | (go_at_call 19; refine SM.out.mono ?_; clear SM; rintro e wy ⟨rfl, hb⟩; have JY := Lib.hid (JV.out.grow hb); clear hb)
        | fail)
      go_roundw
      case rel => exact ⟨t + 1, _, _, _, _, _, _, HT.out.2, rfl, by first | exact congrArg _ KW.out | exact congrArg _ KW2.out, JY.out, GR.out⟩
      case measure => first | exact meas_up KW.out HT.out.2 | exact meas_up KW2.out HT.out.2
    · have tn : t = n0 := by omega
      have t1 : ¬ (t : Int) < (n0 : Int) := by omega
      clear hlt ht
      go_wp2
      go_ret
      exact ⟨rfl, JR.out.bel⟩
end Go.Proofs.Ytmcmdpbdipgahaa
