/-
  Fill.
-/
import Derived.Test.YtgagcblddcibkaaDoorS24
import Derived.Deep.RegionHeld3
namespace Go.Proofs.YtgagcblddcibkaaDoor
open Go.RowKit
open Go.Maps
theorem fill_zero (P : Nat → Int × List Int) : fillL P 0 = [] := rfl
theorem fill_succ (P : Nat → Int × List Int) (k : Nat) : fillL P (k + 1) = putA (fillL P k) (P k) := rfl
theorem lk_nil : (fun _ => zeros 8) = lk [] := rfl
theorem b39 (w : World) : (Instr.build 39 #[]).run Tryd.prog w = .ok (.agg #[.slice none 0 0, .slice none 0 0]) w := by kernel_rfl
theorem Lv.start (w : World) (B M : Nat) (hrow : w.heap[M]? = some (.cells #[.slice none 0 0, .slice none 0 0] 39 (0, 0))) (h : B ≤ M) : Lv w B M (.slice none 0 0) (.slice none 0 0) [] := ⟨hrow, h, Two.nil w B⟩
/-- what Fill hands back: a tree and leaves that hold the same -/
structure Both (w w' : World) (S T M : Nat) (ms : Nat → Option Nat) (a b : Value) (L : List (Int × List Int)) (N : Nat) : Prop where
  tr : Tr w' S T ms (nd (lk L)) N
  lv : Lv w' S M a b L
  bel : Below S w w'
attribute [local irreducible] ua da ba kk sw S8.run rt hs comp splice outB sha msg twoM twoN ab MapIs mrow nd upF at8 prfL zip8 bvals ivals putA fillL inr
set_option maxRecDepth 100000 in
set_option maxHeartbeats 1600000 in
theorem p9 (A : Option Addr) (n cap : Nat) (P : Nat → Int × List Int) (w : World) (hk : Keys w) (hP : Dds w A n P) (hn : n ≤ 60) (hcap : n ≤ cap) :
    Calls Tryd.prog 9 #[.slice A n cap] w fun e w' => ∃ T M ms a b, e = .returned (.tuple #[.pointer (some ⟨T, 0, none⟩), .pointer (some ⟨M, 0, none⟩), .bool true]) ∧ Both w w' w.heap.size T M ms a b (fillL P n) (17 * n) := by
  have HK := Lib.hid hk
  have HPOS : Hid (0 < w.heap.size) := keys_pos hk
  have HD := Lib.hid hP
  have HN : Hid (n ≤ 60) := hn
  have HG : Hid (∀ k, k ≤ n → Good (fillL P k)) := fillL_good hP.len
  obtain ⟨S, hS⟩ : ∃ S, w.heap.size = S := ⟨_, rfl⟩
  have HS := Lib.hid hS
  have KW : Hid (∀ w', Below S w w' → Keys w') := fun w' hb => keys_below HK.out hb (by rw [← HS.out]; exact HPOS.out)
  have C23 := Lib.hid (p23 w)
  rw [hS] at C23
  rw [hS]
  have hb := b39
  clear hk hP hn
  go_enter Tryd.func9, Tryd.ntmps9
  go_wp2_with fail
  clear hS
  refine C23.out.mono ?_
  rintro e w1 ⟨rfl, ht1, hb1⟩
  rw [lk_nil] at ht1
  obtain ⟨M, hM⟩ : ∃ M, w1.heap.size = M := ⟨_, rfl⟩
  have R1 : Hid ((w1.alloc (Obj.cells #[.slice none 0 0, .slice none 0 0] 39)).heap[M]? = some (.cells #[.slice none 0 0, .slice none 0 0] 39 (0, 0))) := by subst hM; exact heap_alloc_last w1 _
  have BM : Hid (Below M w1 (w1.alloc (Obj.cells #[.slice none 0 0, .slice none 0 0] 39))) := by subst hM; exact (Below.refl _ w1).alloc (Nat.le_refl _) _
  have SM : Hid (S < M) := by show _ < _; rw [← hM]; exact ht1.lt
  have BO0 : Hid (Both w (w1.alloc (Obj.cells #[.slice none 0 0, .slice none 0 0] 39)) S S M (fun _ => none) (.slice none 0 0) (.slice none 0 0) (fillL P 0) (17 * 0)) := ⟨by rw [fill_zero]; exact ht1.grow (by rw [hM]; exact BM.out), by rw [fill_zero]; exact Lv.start _ _ _ R1.out (by have := SM.out; omega), hb1.trans (BM.out.mono (by have := SM.out; omega))⟩
  clear ht1 hb1 C23
  go_wp2_with fail
  clear hM
  generalize w1.alloc (Obj.cells #[.slice none 0 0, .slice none 0 0] 39) = w2 at *
  go_loopw [7] (fun kv wr => ∃ (k : Nat) (ms : Nat → Option Nat) (a b : Value), k ≤ n ∧ kv = .int .i64 k ∧ Both w wr S S M ms a b (fillL P k) (17 * k)) (fun kv _ => n - (intOf kv).toNat)
  case atStart => exact ⟨0, _, _, _, Nat.zero_le _, rfl, BO0.out⟩
  case round =>
    clear BO0 R1 BM
    obtain ⟨k, ms, a, b, hk, rfl, hbo⟩ := hrel
    have BO := Lib.hid hbo
    clear hbo
    by_cases hlt : k < n
    · obtain ⟨i, hi⟩ : ∃ i, (P k).1 = i := ⟨_, rfl⟩
      obtain ⟨h0, h1, h2, h3, h4, h5, h6, h7, hh⟩ := c8cells (P k).2 (HD.out.len k hlt)
      have HH := Lib.hid hh
      have HI := Lib.hid hi
      rcases HD.out.cell with h0 | ⟨g, off, hA, hc⟩
      · omega
      subst hA
      have HKN : Hid (k < n) := hlt
      have KF : Hid (∀ w', Below S w w' → w'.cell? ⟨g, off + k * 9, none⟩ = some (.int .i64 i) ∧ (w'.cell? ⟨g, off + k * 9 + 1, none⟩ = some (.int .u8 h0) ∧ w'.cell? ⟨g, off + k * 9 + 1 + 1, none⟩ = some (.int .u8 h1) ∧ w'.cell? ⟨g, off + k * 9 + 1 + 2, none⟩ = some (.int .u8 h2) ∧ w'.cell? ⟨g, off + k * 9 + 1 + 3, none⟩ = some (.int .u8 h3) ∧ w'.cell? ⟨g, off + k * 9 + 1 + 4, none⟩ = some (.int .u8 h4) ∧ w'.cell? ⟨g, off + k * 9 + 1 + 5, none⟩ = some (.int .u8 h5) ∧ w'.cell? ⟨g, off + k * 9 + 1 + 6, none⟩ = some (.int .u8 h6) ∧ w'.cell? ⟨g, off + k * 9 + 1 + 7, none⟩ = some (.int .u8 h7))) := fun w' hb => by
        have hlg := World.block_lt_of_cell? w ⟨g, off + k * 9, none⟩ (hc k hlt).1
        have hbg := hb.block g (by rw [← HS.out]; exact hlg)
        have gg : ∀ c, c < 8 → w'.cell? ⟨g, off + k * 9 + 1 + c, none⟩ = some (.int .u8 ([h0, h1, h2, h3, h4, h5, h6, h7].getD c 0)) := fun c h8 => by
          rw [World.cell?_of_block (w := w) (w' := w') (a := ⟨g, off + k * 9 + 1 + c, none⟩) hbg, ← HH.out]
          exact (hc k hlt).2 c h8
        refine ⟨?_, gg 0 (by decide), gg 1 (by decide), gg 2 (by decide), gg 3 (by decide), gg 4 (by decide), gg 5 (by decide), gg 6 (by decide), gg 7 (by decide)⟩
        rw [World.cell?_of_block (w := w) (w' := w') (a := ⟨g, off + k * 9, none⟩) hbg, (hc k hlt).1, HI.out]
      have HQ : Hid (putA (fillL P k) (i, [h0, h1, h2, h3, h4, h5, h6, h7]) = fillL P (k + 1)) := by show _ = _; rw [← HI.out, ← HH.out, fill_succ]
      obtain ⟨q, hq⟩ : ∃ q, inr i = q := ⟨_, rfl⟩
      have HLN : Hid ((fillL P k).length ≤ 60) := Nat.le_trans (fillL_length P k) (by have := HN.out; omega)
      have E20 : Hid (∀ w', Keeps wr w' → Below S w w' → Calls Tryd.prog 20 #[.pointer (some ⟨S, 0, none⟩), .int .i64 i, .agg #[.int .u8 h0, .int .u8 h1, .int .u8 h2, .int .u8 h3, .int .u8 h4, .int .u8 h5, .int .u8 h6, .int .u8 h7]] w' fun e w'' => e = .returned (.bool q) ∧ ∃ ms', Tr w'' S S ms' (nd (lk (fillL P (k + 1)))) (17 * (k + 1)) ∧ Lv w'' S M a b (fillL P k) ∧ Below S w w'') := fun w' hkp hb => by
        have t' := BO.out.tr.keep hkp.2
        have l' := BO.out.lv.keep hkp.2
        have := p20any S S (17 * k) i [h0, h1, h2, h3, h4, h5, h6, h7] ms (fillL P k) w' (KW.out w' hb) (by rw [← HS.out]; exact HPOS.out) t' (by have := HN.out; omega) rfl
        rw [hq, HQ.out, ba_lit] at this
        refine this.mono fun e w'' hr => ?_
        obtain ⟨he, ms', ht, hc⟩ := hr
        exact ⟨he, ms', ht, l'.turnT t' hc, hb.trans (t'.below hc)⟩
      have E24 : Hid (∀ (ms' : Nat → Option Nat) (wa w' : World), Tr wa S S ms' (nd (lk (fillL P (k + 1)))) (17 * (k + 1)) → Lv wa S M a b (fillL P k) → Keeps wa w' → Below S w w' → Calls Tryd.prog 24 #[.pointer (some ⟨M, 0, none⟩), .int .i64 i, .agg #[.int .u8 h0, .int .u8 h1, .int .u8 h2, .int .u8 h3, .int .u8 h4, .int .u8 h5, .int .u8 h6, .int .u8 h7]] w' fun e w'' => e = .returned (.bool q) ∧ ∃ a' b', Both w w'' S S M ms' a' b' (fillL P (k + 1)) (17 * (k + 1))) := fun ms' wa w' ht hl hkp hb => by
        have t' := ht.keep hkp.2
        have l' := hl.keep hkp.2
        have hBS : S ≤ w'.heap.size := by have := hb.size; have := HS.out; omega
        have := r24any S M a b (fillL P k) i [h0, h1, h2, h3, h4, h5, h6, h7] w' (KW.out w' hb) l' (HG.out k (by omega)) (by have := HLN.out; omega) rfl hBS
        rw [hq, HQ.out, ba_lit] at this
        refine this.mono fun e w'' hr => ?_
        obtain ⟨he, ⟨a', b', hl2⟩, h1, h2, h3, h4, h5⟩ := hr
        refine ⟨he, a', b', t'.keepBut (by decide) l'.row h5, hl2, ⟨h1.trans hb.os, h2.trans hb.tape, h3.trans hb.output, Nat.le_trans hb.size h4, fun x hx => (h5 x (by omega) (by have := SM.out; omega)).trans (hb.block x hx)⟩⟩
      have k0 : (0 : Int) ≤ (k : Int) := by omega
      have k1 : (k : Int) < (n : Int) := by omega
      have k2 : (k : Int) < 60 := by have := HN.out; omega
      have kc : (k : Int) < (cap : Int) := by omega
      clear hc hh hi hq hk hlt
      obtain ⟨x1, u0, u1, u2, u3, u4, u5, u6, u7⟩ := KF.out wr BO.out.bel
      go_wp2_with fail
      go_region_held3 (fun w' => w'.cell? ⟨g, off + k * 9, none⟩ = some (.int .i64 i) ∧ (w'.cell? ⟨g, off + k * 9 + 1, none⟩ = some (.int .u8 h0) ∧ w'.cell? ⟨g, off + k * 9 + 1 + 1, none⟩ = some (.int .u8 h1) ∧ w'.cell? ⟨g, off + k * 9 + 1 + 2, none⟩ = some (.int .u8 h2) ∧ w'.cell? ⟨g, off + k * 9 + 1 + 3, none⟩ = some (.int .u8 h3) ∧ w'.cell? ⟨g, off + k * 9 + 1 + 4, none⟩ = some (.int .u8 h4) ∧ w'.cell? ⟨g, off + k * 9 + 1 + 5, none⟩ = some (.int .u8 h5) ∧ w'.cell? ⟨g, off + k * 9 + 1 + 6, none⟩ = some (.int .u8 h6) ∧ w'.cell? ⟨g, off + k * 9 + 1 + 7, none⟩ = some (.int .u8 h7))) (first | (with_reducible exact KKb.out) | (with_reducible exact KKa.out) | go_keep)
        (first
          | (go_at_call 20; refine (E20.out _ (by repeat (first | (with_reducible exact kp_refl _) | (with_reducible refine kp_drew ?_))) (by first | exact BO.out.bel | exact BO.out.bel.drew)).mono ?_; rintro e wa ⟨rfl, ms2, hta, hla, hba⟩; have TA := Lib.hid hta; have LA := Lib.hid hla; have BA := Lib.hid hba; have KKa := Lib.hid (KF.out wa hba); clear hta hla hba)
          | (go_at_call 24; refine (E24.out ms2 wa _ TA.out LA.out (by repeat (first | (with_reducible exact kp_refl _) | (with_reducible refine kp_drew ?_))) (by first | exact BA.out | exact BA.out.drew)).mono ?_; rintro e wb ⟨rfl, a2, b2, hbo⟩; have BO2 := Lib.hid hbo; have KKb := Lib.hid (KF.out wb hbo.bel); clear hbo))
      rename_i hHeld
      clear hHeld
      go_wp2_with fail
      go_roundw
      case rel => exact ⟨k + 1, ms2, a2, b2, HKN.out, by go_num, BO2.out⟩
      case measure => have := HKN.out; simp [intOf]; omega
    · obtain rfl : k = n := by omega
      go_wp2_with fail
      refine bodyPost_ret (v := .tuple #[.pointer (some ⟨S, 0, none⟩), .pointer (some ⟨M, 0, none⟩), .bool true]) (by simp [results, Tryd.results9, go_sem]) rfl ⟨S, M, ms, a, b, rfl, BO.out⟩
end Go.Proofs.YtgagcblddcibkaaDoor
