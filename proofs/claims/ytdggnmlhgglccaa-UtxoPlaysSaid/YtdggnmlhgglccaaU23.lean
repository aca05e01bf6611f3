/-
  UtxoNests: the walk.
-/
import Derived.Test.YtdggnmlhgglccaaU22
namespace Go.Proofs.Ytdggnmlhgglccaa
open Go.RowKit
set_option maxRecDepth 100000
theorem meas_up {k n : Nat} {z : Int} (h : z = ((k + 1 : Nat) : Int)) (hk : k < n) : n - (intOf (.int .i64 z)).toNat < n - (intOf (.int .i64 (k : Int))).toNat := by
  subst h
  show n - ((k + 1 : Nat) : Int).toNat < n - ((k : Nat) : Int).toNat
  rw [Int.toNat_natCast, Int.toNat_natCast]
  omega
theorem cell_lt {w : World} {b i : Nat} {v : Value} (h : w.cell? ⟨b, i, none⟩ = some v) : b < w.heap.size := by
  rcases Nat.lt_or_ge b w.heap.size with g | g
  · exact g
  · simp [World.cell?, Array.getElem?_eq_none g] at h
attribute [local irreducible] ptV cnV zeros MapC stV
set_option maxHeartbeats 8000000 in
theorem q6 (A0 : Option Addr) (len0 cap0 : Nat) (D : Nat → Dd) (A1 : Option Addr) (len1 cap1 : Nat) (E : Nat → Int) (w : World) (hd : DRow w A0 len0 D) (hok : ∀ i, (D i).ok) (hlc0 : len0 ≤ cap0) (hc0 : cap0 ≤ 9223372036854775807)
    (he : BRow w A1 len1 E) (hE : ∀ i, 0 ≤ E i ∧ E i < 256) (hlc1 : len1 ≤ cap1) (hc1 : cap1 ≤ 9223372036854775807) :
    Calls Try.prog 6 #[.slice A0 len0 cap0, .slice A1 len1 cap1] w fun e w' => e = .returned (.bool true) ∧ Below w.heap.size w w' := by
  have AW := Lib.hid uAwake
  have CF := Lib.hid uFill0
  have HL := Lib.hid (And.intro hlc0 hc0)
  have HL1 := Lib.hid (And.intro hlc1 hc1)
  have HD := Lib.hid hd
  have HE := Lib.hid he
  have HOK := Lib.hid hok
  have HEB := Lib.hid hE
  have KT := Lib.hid True.intro
  clear hlc0 hc0 hlc1 hc1 hd he hok hE
  by_cases h40 : len0 > 40
  · have g40 : decide ((40 : Int) < (len0 : Int)) = true := by simp; omega
    clear h40
    go_enter Try.func6, Try.ntmps6
    go_wp2_with (first
      | (go_at_call 7; refine (AW.out _).mono ?_; rintro e w1 ⟨rfl, hb⟩; have B1 := Lib.hid hb; clear hb)
      | fail)
    go_ret
    exact ⟨rfl, B1.out⟩
  by_cases h10 : len1 > 10
  · have g40 : decide ((40 : Int) < (len0 : Int)) = false := by simp; omega
    have g10 : decide ((10 : Int) < (len1 : Int)) = true := by simp; omega
    clear h40 h10
    go_enter Try.func6, Try.ntmps6
    go_wp2_with (first
      | (go_at_call 7; refine (AW.out _).mono ?_; rintro e w1 ⟨rfl, hb⟩; have B1 := Lib.hid hb; clear hb)
      | fail)
    go_ret
    exact ⟨rfl, B1.out⟩
  have g40 : decide ((40 : Int) < (len0 : Int)) = false := by simp; omega
  have g10 : decide ((10 : Int) < (len1 : Int)) = false := by simp; omega
  have H40 : Hid (len0 ≤ 40 ∧ len1 ≤ 10) := ⟨by omega, by omega⟩
  clear h40 h10
  go_enter Try.func6, Try.ntmps6
  go_wp2_with (first
    | (go_at_call 7; refine (AW.out _).mono ?_; clear AW; rintro e w1 ⟨rfl, hb⟩; have B1 := Lib.hid hb; clear hb)
    | (go_at_call 18; clear KT; refine (CF.out _).mono ?_; rintro e w2 ⟨m2, rfl, g1, g2⟩; have S2 := Lib.hid g1; have B2 := Lib.hid (B1.out.trans (g2.mono B1.out.size)); have X2 := Lib.hid g2; clear g1 g2)
    | fail)
  refine (CF.out _).mono ?_
  rintro e w3 ⟨m3, rfl, g1, g2⟩
  have S3 := Lib.hid g1
  have S2a := Lib.hid (SetIs.grow S2.out g2)
  have B3 := Lib.hid (B2.out.trans (g2.mono B2.out.size))
  have hlt2 : w1.heap.size < w2.heap.size := S2.out.plt _ rfl
  have X3 := Lib.hid (X2.out.trans (g2.mono X2.out.size))
  clear g1 g2 S2 B2 X2
  obtain ⟨N, hN⟩ : ∃ N, w1.heap.size = N := ⟨_, rfl⟩
  obtain ⟨Sb, hSb⟩ : ∃ Sb, w2.heap.size = Sb := ⟨_, rfl⟩
  rw [hN] at S2a hlt2 X3 ⊢
  rw [hSb] at S3 hlt2 ⊢
  have HNS := Lib.hid hlt2
  have HN := Lib.hid hN
  clear hlt2 hSb hN
  have N3 : Hid (N ≤ w3.heap.size) := Lib.hid (by rw [← HN.out]; exact X3.out.size)
  go_wp2_with fail
  refine (uMark _ _ _ _ S3.out).mono ?_
  rintro e w4 ⟨rfl, hb⟩
  have NW4 : Hid (∀ F, F = w4.heap.size → NW N w1 (w4.alloc (Obj.cells #[.int .i64 0] 54)) N Sb [] [] (fun q => q = N) (fun q => q = Sb) F (.slice none 0 0) []) := Lib.hid fun F hF => by
    subst hF
    have hb2 : Below w4.heap.size w4 (w4.alloc (Obj.cells #[.int .i64 0] 54)) := (Below.refl _ _).alloc (Nat.le_refl _) _
    have n4 := N3.out
    have n5 := hb.size
    have sa := SetIs.grow (SetIs.grow S2a.out hb) hb2
    have sb := SetIs.grow (SetIs.grow S3.out hb) hb2
    have la := (SetIs.grow S2a.out hb).plt N rfl
    have lb := (SetIs.grow S3.out hb).plt Sb rfl
    exact ⟨(X3.out.trans (hb.mono n4)).trans (hb2.mono (by omega)), by have := hb2.size; omega, sa, sb, fun q hq => by omega, fun q hq => by have := HNS.out; omega, fun q h1 h2 => by have := HNS.out; omega,
      heap_alloc_last w4 _, ⟨by omega, by omega, by omega⟩, World.ownsRow_nil _ _ _ _, fun g e => (by cases e)⟩
  have B4 := Lib.hid (B3.out.trans (hb.mono B3.out.size))
  clear hb S3 S2a B3 X3 N3
  go_wp2_with fail
  obtain ⟨F, hF⟩ : ∃ F, w4.heap.size = F := ⟨_, rfl⟩
  have NW5 := Lib.hid (NW4.out F hF.symm)
  have B5 : Hid (∀ w', Below N w1 w' → Below w.heap.size w w') := Lib.hid fun w' hb => B1.out.trans (hb.mono (by rw [← HN.out]; exact B1.out.size))
  generalize w4.alloc (Obj.cells #[.int .i64 0] 54) = w5 at *
  rw [hF]
  clear hF NW4 B4
  go_loopw [11, 10] (fun iv mv wr => ∃ (i : Nat) (L : List Stp) (Pa Pb : Nat → Prop) (ms : List Nat), i ≤ len0 ∧ iv = .int .i64 i ∧ NW N w1 wr N Sb L L Pa Pb F mv ms ∧ L.length ≤ i ∧ ms.length ≤ i * 10 ∧ (∀ m ∈ ms, m ≤ L.length) ∧ ms.Pairwise (· ≤ ·)) (fun iv _ _ => len0 - (intOf iv).toNat)
  case atStart => exact ⟨0, [], _, _, [], Nat.zero_le _, rfl, NW5.out, Nat.le_refl _, Nat.le_refl _, fun m h => (by cases h), List.Pairwise.nil⟩
  case round =>
    clear NW5
    obtain ⟨i, L, Pa, Pb, ms, hi, rfl, hnw, hLi, hms, hml, hmp⟩ := hrel
    by_cases hlt : i < len0
    · obtain ⟨d, hdi⟩ : ∃ d, D i = d := ⟨_, rfl⟩
      have HDO : Hid d.ok := Lib.hid (hdi ▸ HOK.out i)
      have HIN := Lib.hid (And.intro hlt H40.out)
      have AB : ∃ b o, A0 = some ⟨b, o, none⟩ ∧ b < N ∧ ∀ w', Below N w1 w' → w'.rangeAt b (o + i * 22) (dV d) := by
        rcases HD.out with h0 | ⟨b, o, e, hrow⟩
        · omega
        · refine ⟨b, o, e, ?_, fun w' hb => ?_⟩
          · have h1 := cell_lt (hrow i hlt 0 _ (by rfl))
            have := HN.out
            have := B1.out.size
            omega
          rw [← hdi]
          exact range_keep (hrow i hlt) (B5.out w' hb).block
      obtain ⟨b, o, rfl, hbN, hrow⟩ := AB
      have HBB := Lib.hid hbN
      have ROW := Lib.hid hrow
      have c0 : wr.cell? ⟨b, o + i * 22, none⟩ = some (.int .i64 d.d) := by have := (ROW.out wr hnw.bel) 0 (.int .i64 d.d) rfl; rwa [Nat.add_zero] at this
      have NW6 := Lib.hid hnw
      have i1 : (i : Int) < (len0 : Int) := by omega
      have i0 : (0 : Int) ≤ (i : Int) := by omega
      have HLI := Lib.hid (And.intro hLi (And.intro hms (And.intro hml hmp)))
      clear hnw hLi hms hml hmp hi hrow hdi hlt hbN
      go_wp2_with fail
      go_loopw [12, 10] (fun kv mv' wx => ∃ (k : Nat) (ms' : List Nat), k ≤ len1 ∧ kv = .int .i64 k ∧ NW N w1 wx N Sb L L Pa Pb F mv' ms' ∧ ms'.length ≤ i * 10 + k ∧ (∀ m ∈ ms', m ≤ L.length) ∧ ms'.Pairwise (· ≤ ·)) (fun kv _ _ => len1 - (intOf kv).toNat)
      case atStart => exact ⟨0, ms, Nat.zero_le _, rfl, NW6.out, HLI.out.2.1, HLI.out.2.2.1, HLI.out.2.2.2⟩
      case round =>
        obtain ⟨k, ms', hk, rfl, hnw', hms', hml', hmp'⟩ := hrel
        rename World => wx
        by_cases hkl : k < len1
        · have AB1 : ∃ b1 o1, A1 = some ⟨b1, o1, none⟩ ∧ ∀ w', Below N w1 w' → w'.cell? ⟨b1, o1 + k, none⟩ = some (.int .u8 (E k)) := by
            rcases HE.out with h0 | ⟨b1, o1, e, hr⟩
            · omega
            · refine ⟨b1, o1, e, fun w' hb => ?_⟩
              exact (World.cell?_of_block ((B5.out w' hb).block b1 (cell_lt (hr k hkl)))).trans (hr k hkl)
          obtain ⟨b1, o1, rfl, hr1⟩ := AB1
          have ck := hr1 wx hnw'.bel
          have NW7 := Lib.hid hnw'
          have k1 : (k : Int) < (len1 : Int) := by omega
          have k0 : (0 : Int) ≤ (k : Int) := by omega
          have KW : Hid (wrap64 ((k : Int) + 1) = ((k + 1 : Nat) : Int)) := Lib.hid (by have := H40.out; unfold wrap64; omega)
          have HK := Lib.hid (And.intro hkl (And.intro hms' (And.intro hml' hmp')))
          obtain ⟨x, hx⟩ : ∃ x, E k = x := ⟨_, rfl⟩
          have hxb := HEB.out k
          rw [hx] at ck hxb
          have hw : IntKind.i64.wrap x = x := by rw [IntKind.wrap_i64]; omega
          clear hr1 hnw' hms' hml' hmp' hk hkl hx hxb c0 i1 i0
          by_cases he : x.tmod 40 = (i : Int)
          · go_wp2_with (first
              | (go_at_call 15; refine (uMark _ _ _ _ NW7.out.a).mono ?_; rintro e wm ⟨rfl, hb⟩; have NW8 := Lib.hid ((NW7.out.grow hb).grow ((Below.refl wm.heap.size wm).alloc (Nat.le_refl _) (Obj.cells #[.int .i64 (L.length : Nat)] 54))); clear hb)
              | (refine wpList_appU rfl (.tmp 62) (.tmp 65) rfl N _ ms' rfl NW8.out.m wm.heap.size L.length 1 rfl (heap_alloc_last wm _) (by have := HK.out.2.1; have := HK.out.1; have := HIN.out; omega) NW8.out.sz ?_; intro A2 c2 wn ho hg hq; have NW9 := Lib.hid (NW8.out.push ho hg hq); clear ho hg hq)
              | fail)
            go_roundw
            case rel =>
              refine ⟨k + 1, ms' ++ [L.length], HK.out.1, congrArg _ KW.out, by have := NW9.out; rw [List.length_append, List.length_singleton] at this; exact this, by rw [List.length_append]; have := HK.out.2.1; simp; omega, fun m hm => ?_, ?_⟩
              · rcases List.mem_append.1 hm with g | g
                · exact HK.out.2.2.1 m g
                · rw [List.mem_singleton.1 g]; exact Nat.le_refl _
              · refine List.pairwise_append.2 ⟨HK.out.2.2.2, List.pairwise_singleton _ _, fun a ha b hb => ?_⟩
                rw [List.mem_singleton.1 hb]
                exact HK.out.2.2.1 a ha
            case measure => exact meas_up KW.out HK.out.1
          · go_wp2_with fail
            go_roundw
            case rel => exact ⟨k + 1, ms', HK.out.1, congrArg _ KW.out, NW7.out, by have := HK.out.2.1; omega, HK.out.2.2⟩
            case measure => exact meas_up KW.out HK.out.1
        · obtain rfl : k = len1 := by omega
          have NW7 := Lib.hid hnw'
          have cd : wx.cell? ⟨b, o + i * 22, none⟩ = some (.int .i64 d.d) := by have := (ROW.out wx hnw'.bel) 0 (.int .i64 d.d) rfl; rwa [Nat.add_zero] at this
          have HK := Lib.hid (And.intro hms' (And.intro hml' hmp'))
          clear hnw' hms' hml' hmp' hk hkl c0
          obtain ⟨r1, r2⟩ := dd_rng HDO.out (ROW.out wx NW7.out.bel)
          have RP := Lib.hid r1
          have RC := Lib.hid r2
          have IW : Hid (wrap64 ((i : Int) + 1) = ((i + 1 : Nat) : Int)) := Lib.hid (by have := H40.out; have := HIN.out.1; unfold wrap64; omega)
          have KT2 := Lib.hid True.intro
          have HLL : Hid (L.length < 1000) := Lib.hid (by have := HLI.out.1; have := HIN.out; omega)
          clear r1 r2
          by_cases he : bits .and .i64 d.d 1 = 0
          · go_wp2_with fail
            have HBP : Hid (¬ Pa b) := Lib.hid fun e => by have := NW7.out.la b e; have := HBB.out; omega
            obtain ⟨NX, hNX⟩ : ∃ n, wx.heap.size = n := ⟨_, rfl⟩
            have WX := Lib.hid hNX
            have HBN : Hid (b < NX) := Lib.hid (by have := HBB.out; have := NW7.out.sz; omega)
            clear hNX
            refine wp_region_held_drew (S := (fun w' : World => ∀ q, q < NX → ¬ Pa q → w'.heap[q]? = wx.heap[q]?)) (by kernel_rfl) (by exact fun _ _ _ => rfl) (fun hHeld => ?_)
            refine wpAnyH_take (i := 0) (v := ?_) rfl (by kernel_rfl) (by kernel_rfl) (by kernel_rfl) (fun _ _ _ h => h) (Or.inl ⟨by rfl, ?_⟩) (by assumption) ?_
            rotate_left
            · (intro w hSw; (try dsimp only at hSw); go_simp; try with_reducible rfl)
            simp only [Act.put, List.getElem_toArray, List.getElem_cons_zero, List.setIfInBounds_toArray, List.set_cons_zero, List.set_cons_succ]
            refine wpAnyH_take (i := 1) (v := ?_) rfl (by kernel_rfl) (by kernel_rfl) (by kernel_rfl) (fun _ _ _ h => h) (Or.inl ⟨by rfl, ?_⟩) (by assumption) ?_
            rotate_left
            · (intro w hSw; (try dsimp only at hSw); go_simp; try with_reducible rfl)
            simp only [Act.put, List.getElem_toArray, List.getElem_cons_succ, List.getElem_cons_zero, List.setIfInBounds_toArray, List.set_cons_zero, List.set_cons_succ]
            refine wpAnyH_take (i := 2) (v := ?_) rfl (by kernel_rfl) (by kernel_rfl) (by kernel_rfl) (fun _ _ _ h => h) (Or.inl ⟨by rfl, ?_⟩) (by assumption) ?_
            rotate_left
            · (intro w hSw; (try dsimp only at hSw); go_simp; try with_reducible rfl)
            simp only [Act.put, List.getElem_toArray, List.getElem_cons_succ, List.getElem_cons_zero, List.setIfInBounds_toArray, List.set_cons_zero, List.set_cons_succ]
            refine wpAnyH_take (i := 3) (v := ?_) rfl (by kernel_rfl) (by kernel_rfl) (by kernel_rfl) (fun _ _ _ h => h) (Or.inl ⟨by rfl, ?_⟩) (by assumption) ?_
            rotate_left
            · (intro w hSw; (try dsimp only at hSw); go_simp; try with_reducible rfl)
            simp only [Act.put, List.getElem_toArray, List.getElem_cons_succ, List.getElem_cons_zero, List.setIfInBounds_toArray, List.set_cons_zero, List.set_cons_succ]
            refine wpAnyH_take (i := 4) (v := ?_) rfl (by kernel_rfl) (by kernel_rfl) (by kernel_rfl) (fun _ _ _ h => h) (Or.inl ⟨by rfl, ?_⟩) (by assumption) ?_
            rotate_left
            · (intro w hSw; (try dsimp only at hSw); go_simp; try with_reducible rfl)
            simp only [Act.put, List.getElem_toArray, List.getElem_cons_succ, List.getElem_cons_zero, List.setIfInBounds_toArray, List.set_cons_zero, List.set_cons_succ]
            refine wpAnyH_take (i := 5) rfl (by kernel_rfl) (by kernel_rfl) (by kernel_rfl) (fun _ _ _ h => h) (yieldsIf_load_mid (by rfl) 38 (.tmp 78) rfl b (o + i * 22 + 2) rfl (ptV d.p) _ (fun w h => range_keep1 RP.out (h b HBN.out HBP.out)) Try.underlying38 rfl (szP HDO.out.1)) (by assumption) ?_
            simp only [Act.put, List.getElem_toArray, List.getElem_cons_succ, List.getElem_cons_zero, List.setIfInBounds_toArray, List.set_cons_zero, List.set_cons_succ]
            refine wpAnyH_take (i := 6) (v := ?_) rfl (by kernel_rfl) (by kernel_rfl) (by kernel_rfl) (fun _ _ _ h => h) (Or.inl ⟨by rfl, ?_⟩) (by assumption) ?_
            rotate_left
            · (intro w hSw; (try dsimp only at hSw); go_simp; try with_reducible rfl)
            simp only [Act.put, List.getElem_toArray, List.getElem_cons_succ, List.getElem_cons_zero, List.setIfInBounds_toArray, List.set_cons_zero, List.set_cons_succ]
            refine wpAnyH_take (i := 7) (v := ?_) rfl (by kernel_rfl) (by kernel_rfl) (by kernel_rfl) (fun _ _ _ h => h) (Or.inl ⟨by rfl, ?_⟩) (by assumption) ?_
            rotate_left
            · (intro w hSw; (try dsimp only at hSw); go_simp; try with_reducible rfl)
            simp only [Act.put, List.getElem_toArray, List.getElem_cons_succ, List.getElem_cons_zero, List.setIfInBounds_toArray, List.set_cons_zero, List.set_cons_succ]
            refine wpAnyH_take (i := 8) (v := ?_) rfl (by kernel_rfl) (by kernel_rfl) (by kernel_rfl) (fun _ _ _ h => h) (Or.inl ⟨by rfl, ?_⟩) (by assumption) ?_
            rotate_left
            · (intro w hSw; (try dsimp only at hSw); go_simp; try with_reducible rfl)
            simp only [Act.put, List.getElem_toArray, List.getElem_cons_succ, List.getElem_cons_zero, List.setIfInBounds_toArray, List.set_cons_zero, List.set_cons_succ]
            refine wpAnyH_take (i := 9) (v := ?_) rfl (by kernel_rfl) (by kernel_rfl) (by kernel_rfl) (fun _ _ _ h => h) (Or.inl ⟨by rfl, ?_⟩) (by assumption) ?_
            rotate_left
            · (intro w hSw; (try dsimp only at hSw); go_simp; try with_reducible rfl)
            simp only [Act.put, List.getElem_toArray, List.getElem_cons_succ, List.getElem_cons_zero, List.setIfInBounds_toArray, List.set_cons_zero, List.set_cons_succ]
            refine wpAnyH_take (i := 10) rfl (by kernel_rfl) (by kernel_rfl) (by kernel_rfl) (fun _ _ _ h => h) (yieldsIf_load_mid (by rfl) 42 (.tmp 83) rfl b (o + i * 22 + 11) rfl (cnV d.c) _ (fun w h => range_keep1 RC.out (h b HBN.out HBP.out)) Try.underlying42 rfl (szL i42c (cnV_len HDO.out.2.1.len))) (by assumption) ?_
            simp only [Act.put, List.getElem_toArray, List.getElem_cons_succ, List.getElem_cons_zero, List.setIfInBounds_toArray, List.set_cons_zero, List.set_cons_succ]
            refine wpAnyH_ready (rs := [11]) (by kernel_rfl) (by simp) ?_
            refine AllReadyH.cons rfl (fun K hK => ?_) AllReadyH.nil
            go_simp
            go_at_call 12
            refine (uCoin d.c _ HDO.out.2.1.len).mono ?_
            rintro e wy ⟨rfl, hba⟩
            have NW8 := Lib.hid ((NW7.out.grow (Below.refl _ _).drew).grow hba)
            have XY : Hid (∀ q, q < NX → ¬ Pa q → wy.heap[q]? = wx.heap[q]?) := Lib.hid fun q hq _ => hba.block q (by have := WX.out; show q < wx.heap.size; omega)
            have SY : Hid (NX ≤ wy.heap.size) := Lib.hid (by have := hba.size; have := WX.out; have : wx.heap.size ≤ wy.heap.size := hba.size; omega)
            clear hba hHeld
            (try go_wp2_with fail)
            refine hK.out _ _ XY.out (fun hHeld => ?_)
            clear hK K
            refine wpAnyH_ready (rs := [12]) (by kernel_rfl) (by simp) ?_
            refine AllReadyH.cons rfl (fun K hK => ?_) AllReadyH.nil
            go_simp
            go_at_call 11
            refine (uAddC N L Pa d.p d.c _ NW8.out.a HDO.out.1 HDO.out.2.1 HLL.out).mono ?_
            rintro e wz ⟨rfl, PaN, g1, g2, g3⟩
            have NW9 := Lib.hid (NW8.out.turnA g1 g2 g3)
            have XZ : Hid (∀ q, q < NX → ¬ Pa q → wz.heap[q]? = wx.heap[q]?) := Lib.hid fun q hq hn => (g3.block q (by have := SY.out; omega) hn).trans (XY.out q hq hn)
            clear g1 g2 g3 hHeld
            (try go_wp2_with fail)
            refine hK.out _ _ XZ.out (fun hHeld => ?_)
            clear hK K hHeld
            refine wpAnyH_done (by kernel_rfl) ?_ _
            clear XY XZ SY WX HBN HBP NW8
            go_upto_region 21 with (fail)
            have HBP : Hid (¬ Pb b) := Lib.hid fun e => by have := NW9.out.lb b e; have := HBB.out; omega
            obtain ⟨r1, r2⟩ := dd_rng HDO.out (ROW.out wz NW9.out.bel)
            have RPz := Lib.hid r1
            have RCz := Lib.hid r2
            clear r1 r2
            obtain ⟨NZ, hNX⟩ : ∃ n, wz.heap.size = n := ⟨_, rfl⟩
            have WX := Lib.hid hNX
            have HBN : Hid (b < NZ) := Lib.hid (by have := HBB.out; have := NW9.out.sz; omega)
            clear hNX
            refine wp_region_held_drew (S := (fun w' : World => ∀ q, q < NZ → ¬ Pb q → w'.heap[q]? = wz.heap[q]?)) (by kernel_rfl) (by exact fun _ _ _ => rfl) (fun hHeld => ?_)
            refine wpAnyH_take (i := 0) (v := ?_) rfl (by kernel_rfl) (by kernel_rfl) (by kernel_rfl) (fun _ _ _ h => h) (Or.inl ⟨by rfl, ?_⟩) (by assumption) ?_
            rotate_left
            · (intro w hSw; (try dsimp only at hSw); go_simp; try with_reducible rfl)
            simp only [Act.put, List.getElem_toArray, List.getElem_cons_zero, List.setIfInBounds_toArray, List.set_cons_zero, List.set_cons_succ]
            refine wpAnyH_take (i := 1) (v := ?_) rfl (by kernel_rfl) (by kernel_rfl) (by kernel_rfl) (fun _ _ _ h => h) (Or.inl ⟨by rfl, ?_⟩) (by assumption) ?_
            rotate_left
            · (intro w hSw; (try dsimp only at hSw); go_simp; try with_reducible rfl)
            simp only [Act.put, List.getElem_toArray, List.getElem_cons_succ, List.getElem_cons_zero, List.setIfInBounds_toArray, List.set_cons_zero, List.set_cons_succ]
            refine wpAnyH_take (i := 2) (v := ?_) rfl (by kernel_rfl) (by kernel_rfl) (by kernel_rfl) (fun _ _ _ h => h) (Or.inl ⟨by rfl, ?_⟩) (by assumption) ?_
            rotate_left
            · (intro w hSw; (try dsimp only at hSw); go_simp; try with_reducible rfl)
            simp only [Act.put, List.getElem_toArray, List.getElem_cons_succ, List.getElem_cons_zero, List.setIfInBounds_toArray, List.set_cons_zero, List.set_cons_succ]
            refine wpAnyH_take (i := 3) (v := ?_) rfl (by kernel_rfl) (by kernel_rfl) (by kernel_rfl) (fun _ _ _ h => h) (Or.inl ⟨by rfl, ?_⟩) (by assumption) ?_
            rotate_left
            · (intro w hSw; (try dsimp only at hSw); go_simp; try with_reducible rfl)
            simp only [Act.put, List.getElem_toArray, List.getElem_cons_succ, List.getElem_cons_zero, List.setIfInBounds_toArray, List.set_cons_zero, List.set_cons_succ]
            refine wpAnyH_take (i := 4) (v := ?_) rfl (by kernel_rfl) (by kernel_rfl) (by kernel_rfl) (fun _ _ _ h => h) (Or.inl ⟨by rfl, ?_⟩) (by assumption) ?_
            rotate_left
            · (intro w hSw; (try dsimp only at hSw); go_simp; try with_reducible rfl)
            simp only [Act.put, List.getElem_toArray, List.getElem_cons_succ, List.getElem_cons_zero, List.setIfInBounds_toArray, List.set_cons_zero, List.set_cons_succ]
            refine wpAnyH_take (i := 5) rfl (by kernel_rfl) (by kernel_rfl) (by kernel_rfl) (fun _ _ _ h => h) (yieldsIf_load_mid (by rfl) 38 (.tmp 91) rfl b (o + i * 22 + 2) rfl (ptV d.p) _ (fun w h => range_keep1 RPz.out (h b HBN.out HBP.out)) Try.underlying38 rfl (szP HDO.out.1)) (by assumption) ?_
            simp only [Act.put, List.getElem_toArray, List.getElem_cons_succ, List.getElem_cons_zero, List.setIfInBounds_toArray, List.set_cons_zero, List.set_cons_succ]
            refine wpAnyH_take (i := 6) (v := ?_) rfl (by kernel_rfl) (by kernel_rfl) (by kernel_rfl) (fun _ _ _ h => h) (Or.inl ⟨by rfl, ?_⟩) (by assumption) ?_
            rotate_left
            · (intro w hSw; (try dsimp only at hSw); go_simp; try with_reducible rfl)
            simp only [Act.put, List.getElem_toArray, List.getElem_cons_succ, List.getElem_cons_zero, List.setIfInBounds_toArray, List.set_cons_zero, List.set_cons_succ]
            refine wpAnyH_take (i := 7) (v := ?_) rfl (by kernel_rfl) (by kernel_rfl) (by kernel_rfl) (fun _ _ _ h => h) (Or.inl ⟨by rfl, ?_⟩) (by assumption) ?_
            rotate_left
            · (intro w hSw; (try dsimp only at hSw); go_simp; try with_reducible rfl)
            simp only [Act.put, List.getElem_toArray, List.getElem_cons_succ, List.getElem_cons_zero, List.setIfInBounds_toArray, List.set_cons_zero, List.set_cons_succ]
            refine wpAnyH_take (i := 8) (v := ?_) rfl (by kernel_rfl) (by kernel_rfl) (by kernel_rfl) (fun _ _ _ h => h) (Or.inl ⟨by rfl, ?_⟩) (by assumption) ?_
            rotate_left
            · (intro w hSw; (try dsimp only at hSw); go_simp; try with_reducible rfl)
            simp only [Act.put, List.getElem_toArray, List.getElem_cons_succ, List.getElem_cons_zero, List.setIfInBounds_toArray, List.set_cons_zero, List.set_cons_succ]
            refine wpAnyH_take (i := 9) (v := ?_) rfl (by kernel_rfl) (by kernel_rfl) (by kernel_rfl) (fun _ _ _ h => h) (Or.inl ⟨by rfl, ?_⟩) (by assumption) ?_
            rotate_left
            · (intro w hSw; (try dsimp only at hSw); go_simp; try with_reducible rfl)
            simp only [Act.put, List.getElem_toArray, List.getElem_cons_succ, List.getElem_cons_zero, List.setIfInBounds_toArray, List.set_cons_zero, List.set_cons_succ]
            refine wpAnyH_take (i := 10) rfl (by kernel_rfl) (by kernel_rfl) (by kernel_rfl) (fun _ _ _ h => h) (yieldsIf_load_mid (by rfl) 42 (.tmp 96) rfl b (o + i * 22 + 11) rfl (cnV d.c) _ (fun w h => range_keep1 RCz.out (h b HBN.out HBP.out)) Try.underlying42 rfl (szL i42c (cnV_len HDO.out.2.1.len))) (by assumption) ?_
            simp only [Act.put, List.getElem_toArray, List.getElem_cons_succ, List.getElem_cons_zero, List.setIfInBounds_toArray, List.set_cons_zero, List.set_cons_succ]
            refine wpAnyH_ready (rs := [11]) (by kernel_rfl) (by simp) ?_
            refine AllReadyH.cons rfl (fun K hK => ?_) AllReadyH.nil
            go_simp
            go_at_call 12
            refine (uCoin d.c _ HDO.out.2.1.len).mono ?_
            rintro e wu ⟨rfl, hba⟩
            have NW10 := Lib.hid ((NW9.out.grow (Below.refl _ _).drew).grow hba)
            have XY : Hid (∀ q, q < NZ → ¬ Pb q → wu.heap[q]? = wz.heap[q]?) := Lib.hid fun q hq _ => hba.block q (by have := WX.out; show q < wz.heap.size; omega)
            have SY : Hid (NZ ≤ wu.heap.size) := Lib.hid (by have := hba.size; have := WX.out; have : wz.heap.size ≤ wu.heap.size := hba.size; omega)
            clear hba hHeld
            (try go_wp2_with fail)
            refine hK.out _ _ XY.out (fun hHeld => ?_)
            clear hK K
            refine wpAnyH_ready (rs := [12]) (by kernel_rfl) (by simp) ?_
            refine AllReadyH.cons rfl (fun K hK => ?_) AllReadyH.nil
            go_simp
            go_at_call 11
            refine (uAddC Sb L Pb d.p d.c _ NW10.out.b HDO.out.1 HDO.out.2.1 HLL.out).mono ?_
            rintro e wv ⟨rfl, PbN, g1, g2, g3⟩
            have NW11 := Lib.hid (NW10.out.turnB g1 g2 g3)
            have XZ : Hid (∀ q, q < NZ → ¬ Pb q → wv.heap[q]? = wz.heap[q]?) := Lib.hid fun q hq hn => (g3.block q (by have := SY.out; omega) hn).trans (XY.out q hq hn)
            clear g1 g2 g3 hHeld
            (try go_wp2_with fail)
            refine hK.out _ _ XZ.out (fun hHeld => ?_)
            clear hK K hHeld
            refine wpAnyH_done (by kernel_rfl) ?_ _
            clear XY XZ SY WX HBN HBP NW10
            go_wp2_with fail
            go_roundw
            case rel =>
              refine ⟨i + 1, _, _, _, ms', HIN.out.1, congrArg _ IW.out, NW11.out, ?_, by have := HK.out.1; have := HIN.out.2; omega, fun m hm => ?_, HK.out.2.2⟩
              · have := HLI.out.1
                split <;> simp <;> omega
              · have := HK.out.2.1 m hm
                split <;> simp <;> omega
            case measure => exact meas_up IW.out HIN.out.1
          · go_wp2_with (first
              | (refine wpList_load_midG (by rfl) 38 (.tmp 104) rfl b (o + i * 22 + 2) rfl (ptV d.p) _ RP.out Try.underlying38 rfl (szP HDO.out.1) ?_)
              | (refine wpList_load_midG (by rfl) 38 (.tmp 111) rfl b (o + i * 22 + 2) rfl (ptV d.p) _ RPz.out Try.underlying38 rfl (szP HDO.out.1) ?_)
              | (go_at_call 14; clear KT2; refine (uSpend N L Pa d.p _ NW7.out.a HDO.out.1 HLL.out).mono ?_; rintro e wz ⟨rfl, PaN, g1, g2, g3⟩; have NW9 := Lib.hid (NW7.out.turnA g1 g2 g3); have RPz := Lib.hid (dd_rng HDO.out (ROW.out wz NW9.out.bel)).1; clear g1 g2 g3)
              | (go_at_call 14; refine (uSpend Sb L Pb d.p _ NW9.out.b HDO.out.1 HLL.out).mono ?_; rintro e wv ⟨rfl, PbN, g1, g2, g3⟩; have NW11 := Lib.hid (NW9.out.turnB g1 g2 g3); clear g1 g2 g3)
              | fail)
            go_roundw
            case rel =>
              refine ⟨i + 1, _, _, _, ms', HIN.out.1, congrArg _ IW.out, NW11.out, ?_, by have := HK.out.1; have := HIN.out.2; omega, fun m hm => ?_, HK.out.2.2⟩
              · have := HLI.out.1
                have := spendL_len L d.p
                omega
              · have := HK.out.2.1 m hm
                have := spendL_len L d.p
                omega
            case measure => exact meas_up IW.out HIN.out.1
    · obtain rfl : i = len0 := by omega
      obtain ⟨Am, cm, rfl⟩ := own_sl hnw.m
      have NW6 := Lib.hid hnw
      have HM := Lib.hid (And.intro hLi (And.intro hms (And.intro hml hmp)))
      have HT := Lib.hid (fun (S : Nat) (P : Nat → Prop) (w : World) (h : SetIs w S L P) => uTot S L P w h)
      have HN2 := Lib.hid (fun (S : Nat) (P : Nat → Prop) (w : World) (h : SetIs w S L P) => uLen S L P w h)
      generalize setT L = tL at HT
      have hnn : (0 : Int) ≤ (setN L : Int) := Int.natCast_nonneg _
      generalize (setN L : Int) = nL at HN2 hnn
      have HNN := Lib.hid hnn
      have KA := Lib.hid True.intro
      have KB := Lib.hid True.intro
      have hw1 : wrap64 ((ms.length : Int) - 1) = (ms.length : Int) - 1 := by have := H40.out; unfold wrap64; omega
      have HKM : Hid (ms.length ≤ 400) := Lib.hid (by have := H40.out; omega)
      clear hnw hLi hms hml hmp hi hlt hnn
      go_wp2_with (first
        | (go_at_call 23; clear KA; refine (HT.out N Pa _ NW6.out.a).mono ?_; rintro e wq ⟨rfl, rfl⟩)
        | (go_at_call 23; refine (HT.out Sb Pb _ NW6.out.b).mono ?_; rintro e wq ⟨rfl, rfl⟩)
        | (go_at_call 24; clear KB; refine (HN2.out N Pa _ NW6.out.a).mono ?_; rintro e wq ⟨rfl, rfl⟩)
        | (go_at_call 24; refine (HN2.out Sb Pb _ NW6.out.b).mono ?_; rintro e wq ⟨rfl, rfl⟩)
        | fail)
      rw [hw1]
      clear hw1
      go_loopw [13] (fun kv wy => ∃ (k : Nat) (La : List Stp), k ≤ ms.length ∧ kv = .int .i64 ((k : Int) - 1) ∧ NW N w1 wy N Sb La L Pa Pb F (.slice Am ms.length cm) ms ∧ (∀ j, j < k → ms.getD j 0 ≤ La.length) ∧ La.length ≤ 1000) (fun kv _ => (intOf kv + 1).toNat)
      case atStart =>
        refine ⟨ms.length, L, Nat.le_refl _, rfl, NW6.out, fun j hj => ?_, by have := HM.out.1; have := H40.out.1; omega⟩
        rw [List.getD_eq_getElem?_getD, List.getElem?_eq_getElem hj]
        exact HM.out.2.2.1 _ (List.getElem_mem hj)
      case round =>
        obtain ⟨k, La, hk, rfl, hnw, hjl, hla⟩ := hrel
        rename World => wy
        cases k with
        | succ k =>
          have ek : ((k + 1 : Nat) : Int) - 1 = (k : Int) := by omega
          rw [ek]
          obtain ⟨g, c9, e9, hmc, ck⟩ := hnw.mark (show k < ms.length by omega)
          injection e9 with e91 e92 e93
          subst e91 e93
          have hm9 := hjl k (by omega)
          obtain ⟨m, hm⟩ : ∃ m, ms.getD k 0 = m := ⟨_, rfl⟩
          rw [hm] at ck hm9
          have NW7 := Lib.hid hnw
          have HMK := Lib.hid hm
          have HM9 := Lib.hid hm9
          have HKL : Hid (k < ms.length) := Lib.hid (by omega)
          have HLA := Lib.hid hla
          have KC := Lib.hid True.intro
          have k0 : (0 : Int) ≤ (k : Int) := by omega
          have k1 : (k : Int) < (ms.length : Int) := by omega
          have k2 : (k : Int) < (cm : Int) := by omega
          have kw : wrap64 ((k : Int) - 1) = (k : Int) - 1 := by have := HKM.out; unfold wrap64; omega
          have CB1 := Lib.hid (uBackYes N La Pa m wy NW7.out.a (by omega) hm9)
          clear hnw hjl hk hm hm9 hla ek hmc
          go_wp2_with (first
            | (go_at_call 16; clear KC; refine CB1.out.mono ?_; clear CB1; rintro e wz ⟨rfl, g1, g3⟩; have NW8 := Lib.hid (NW7.out.turnA g1 (fun q hq => .inl hq) g3); have ck2 := mark_at NW8.out HKL.out HMK.out; have CB2 := Lib.hid (uBackYes N _ Pa m wz NW8.out.a (by rw [List.length_drop]; have := HLA.out; omega) (by rw [List.length_drop]; have := HM9.out; omega)); clear g1 g3)
            | (go_at_call 16; refine CB2.out.mono ?_; clear CB2; rintro e wu ⟨rfl, g1, g3⟩; have NW9 := Lib.hid (NW8.out.turnA g1 (fun q hq => .inl hq) g3); clear g1 g3)
            | fail)
          go_roundw
          case rel =>
            refine ⟨k, _, Nat.le_of_lt HKL.out, congrArg _ kw, NW9.out, fun j hj => ?_, by rw [List.length_drop, List.length_drop]; have := HLA.out; omega⟩
            rw [List.length_drop, List.length_drop]
            have h1 := HM9.out
            have h2 := pair_le HM.out.2.2.2 (Nat.le_of_lt hj) HKL.out
            rw [HMK.out] at h2
            omega
          case measure => exact meas_dn kw
        | zero =>
          have ek : ((0 : Nat) : Int) - 1 = -1 := by omega
          rw [ek]
          have NW7 := Lib.hid hnw
          have HLA := Lib.hid hla
          clear hnw hjl hk hla ek
          have KD := Lib.hid True.intro
          have KE := Lib.hid True.intro
          have cf := bl_c0 NW7.out.f
          by_cases hz : 0 < ms.length
          · have z1 : (0 : Int) < (ms.length : Int) := by omega
            have z0 : decide (0 < ms.length) = true := decide_eq_true hz
            go_wp2_with (first
              | (go_at_call 18; refine (CF.out _).mono ?_; rintro e wc ⟨mc, rfl, g1, g2⟩; have SC := Lib.hid g1; have NW8 := Lib.hid (NW7.out.grow g2); have HCN : Hid (∀ q, Pb q → q < wy.heap.size) := Lib.hid NW7.out.b.plt; have cf := bl_c0 NW8.out.f; clear g1 g2)
              | (go_at_call 16; refine (uBack0 Sb L Pb _ NW8.out.b (by have := HM.out.1; have := H40.out.1; omega)).mono ?_; rintro e wd ⟨rfl, g1, g3⟩; have NW9 := Lib.hid (NW8.out.turnB g1 (fun q hq => .inl hq) g3); have SD := Lib.hid (SC.out.keep (fun q hq => g3.block q (SC.out.plt q hq) fun e => by have := HCN.out q e; omega) g3.size); clear g1 g3)
              | (go_at_call 23; refine (uTot0 Sb Pb _ NW9.out.b).mono ?_; rintro e we ⟨rfl, rfl⟩)
              | (go_at_call 24; clear KD; refine (uLen0 Sb Pb _ NW9.out.b).mono ?_; rintro e we ⟨rfl, rfl⟩)
              | (go_at_call 24; refine (uLen0 _ _ _ SD.out).mono ?_; rintro e we ⟨rfl, rfl⟩)
              | fail)
            go_ret
            exact ⟨rfl, B5.out _ NW9.out.bel⟩
          · have z1 : ¬ (0 : Int) < (ms.length : Int) := by omega
            have z0 : decide (0 < ms.length) = false := decide_eq_false hz
            have z2 : (0 : Int) ≤ (setN La : Int) := Int.natCast_nonneg _
            have CLA := Lib.hid (fun (w : World) (h : SetIs w N La Pa) => uLen N La Pa w h)
            generalize (setN La : Int) = nA at z2 CLA
            go_wp2_with (first
              | (go_at_call 18; refine (CF.out _).mono ?_; rintro e wc ⟨mc, rfl, g1, g2⟩; have SC := Lib.hid g1; have NW8 := Lib.hid (NW7.out.grow g2); have HCN : Hid (∀ q, Pb q → q < wy.heap.size) := Lib.hid NW7.out.b.plt; have cf := bl_c0 NW8.out.f; clear g1 g2)
              | (go_at_call 16; refine (uBack0 Sb L Pb _ NW8.out.b (by have := HM.out.1; have := H40.out.1; omega)).mono ?_; rintro e wd ⟨rfl, g1, g3⟩; have NW9 := Lib.hid (NW8.out.turnB g1 (fun q hq => .inl hq) g3); have SD := Lib.hid (SC.out.keep (fun q hq => g3.block q (SC.out.plt q hq) fun e => by have := HCN.out q e; omega) g3.size); clear g1 g3)
              | (go_at_call 23; refine (uTot0 Sb Pb _ NW9.out.b).mono ?_; rintro e we ⟨rfl, rfl⟩)
              | (go_at_call 24; clear KD; refine (uLen0 Sb Pb _ NW9.out.b).mono ?_; rintro e we ⟨rfl, rfl⟩)
              | (go_at_call 24; clear KE; refine (CLA.out _ NW9.out.a).mono ?_; rintro e we ⟨rfl, rfl⟩)
              | (go_at_call 24; refine (uLen0 _ _ _ SD.out).mono ?_; rintro e we ⟨rfl, rfl⟩)
              | fail)
            go_ret
            exact ⟨rfl, B5.out _ NW9.out.bel⟩
end Go.Proofs.Ytdggnmlhgglccaa
