/-
  The Writer's write.
-/
import Derived.Test.YtjkhbddnbpnmcaaW4
namespace Go.Proofs.Ytjkhbddnbpnmcaa
open Go.RowKit
attribute [local go_sem ↓] Go.wp_at_zero Go.wp_at_succ

theorem c34x (base Wb : Nat) (err : Int) (v : Value) (w : World) (he : err ≠ 0) (h : Wx base Wb w err) :
    Calls Try.prog 34 #[.pointer (some ⟨Wb, 0, none⟩), v] w fun e w' => e = .returned (.tuple #[]) ∧ w = w' := by
  obtain ⟨h0, h1, h2⟩ := three_cell h.2
  have hd : decide (err = 0) = false := decide_eq_false he
  clear h
  go_enter Try.func34, Try.ntmps34
  go_wp2
  refine bodyPost_ret (v := .tuple #[]) (by simp [results, Try.results34, go_sem]) rfl ?_
  exact ⟨rfl, rfl⟩
theorem c34l (base Wb : Nat) (x : Value) (n : Nat) (A : Option Addr) (m c : Nat) (w : World) (hb : base ≤ Wb) (h : Three w Wb x (.int .i64 n) (.int .i64 0)) (hn : n ≤ 131072) (hl : 131072 < n + m) :
    Calls Try.prog 34 #[.pointer (some ⟨Wb, 0, none⟩), .slice A m c] w fun e w' => e = .returned (.tuple #[]) ∧ Wx base Wb w' 3 ∧ Below base w w' := by
  obtain ⟨h0, h1, h2⟩ := three_cell h
  have C := Lib.hid (c36 Wb _ _ _ 3 w h)
  have hlt : (131072 - (n : Int)) < (m : Int) := by omega
  clear h
  go_enter Try.func34, Try.ntmps34
  go_wp2_with (go_at_call 36; refine C.out.mono ?_; rintro e w' ⟨rfl, h3, h4⟩)
  have H3 := Lib.hid h3
  have H4 := Lib.hid h4
  clear h3 h4
  refine bodyPost_ret (v := .tuple #[]) (by simp [results, Try.results34, go_sem]) rfl ?_
  exact ⟨rfl, ⟨hb, H3.out⟩, H4.out base hb⟩

theorem three_grown {w w' : World} {b : Nat} {x y z : Value} {row : Option Nat} (hg : w.grownBy w' row) (hne : some b ≠ row) (h : Three w b x y z) : Three w' b x y z := by
  have hlt : b < w.heap.size := lt_of_block h
  unfold Three at *
  rw [hg.block b hlt hne]; exact h

theorem On.more {base Wb Pb : Nat} {A A' : Option Addr} {c c' m : Nat} {w w1 : World} {bs ys : List Int} (h : On base Wb Pb A c w bs) (hl : ys.length = m)
    (hown : w1.ownsRow base 5 1 (.slice A' (bs.length + m) c') (bs.length + m) (bvals (bs ++ ys))) (hg : w.grownBy w1 (Value.slice A bs.length c).ownBlock)
    (hat : (Value.slice A' (bs.length + m) c').ownBlock = (Value.slice A bs.length c).ownBlock ∨ (Value.slice A' (bs.length + m) c').ownBlock = some w.heap.size) :
    On base Wb Pb A' c' ((w1.setCell ⟨Pb, 0, none⟩ (.slice A' (bs.length + m) c')).setCell ⟨Wb, 1, none⟩ (.int .i64 ((bs.length : Int) + m))) (bs ++ ys) ∧
      Below base w ((w1.setCell ⟨Pb, 0, none⟩ (.slice A' (bs.length + m) c')).setCell ⟨Wb, 1, none⟩ (.int .i64 ((bs.length : Int) + m))) := by
  have hW : Wb < w.heap.size := lt_of_block h.three
  have hP : Pb < w.heap.size := lt_of_block h.one
  have aw : (Value.slice A' (bs.length + m) c').ownBlock ≠ some Wb := by
    rcases hat with e | e <;> rw [e]
    · exact h.aw
    · simp; omega
  have ap : (Value.slice A' (bs.length + m) c').ownBlock ≠ some Pb := by
    rcases hat with e | e <;> rw [e]
    · exact h.ap
    · simp; omega
  have hlen : (bs ++ ys).length = bs.length + m := by rw [List.length_append, hl]
  have e : (((bs ++ ys).length : Nat) : Int) = (bs.length : Int) + m := by rw [hlen]; simp
  have ht := three_grown hg (Ne.symm h.aw) h.three
  have ho : w1.heap[Pb]? = some (.cells #[.slice A bs.length c] 66 (0, 0)) := (hg.block Pb hP (Ne.symm h.ap)).trans h.one
  have hbase : base ≤ w.heap.size := Nat.le_trans h.bw (Nat.le_of_lt hW)
  refine ⟨⟨h.bw, h.bp, h.ne, ?_, ?_, ?_, ?_, ?_⟩, (((Below.refl base w).grown hg hbase (own_base h.own)).setCell h.bp _).setCell h.bw _⟩
  · rw [e]; exact three_set1 _ (three_else 0 _ (Ne.symm h.ne) ht)
  · rw [hlen, Below.heap_setCell _ _ _ _ h.ne]; exact one_setCell ho
  · rw [hlen]; exact ownsRow_setCell_other (ownsRow_setCell_other hown ap _) aw _
  · rw [hlen]; exact aw
  · rw [hlen]; exact ap
theorem On.drew {base Wb Pb : Nat} {A : Option Addr} {c : Nat} {w : World} {bs : List Int} (h : On base Wb Pb A c w bs) : On base Wb Pb A c w.drew bs :=
  ⟨h.bw, h.bp, h.ne, h.three, h.one, own_keep h.own (fun _ _ => rfl), h.aw, h.ap⟩
theorem On.drewN {base Wb Pb : Nat} {A : Option Addr} {c : Nat} {w : World} {bs : List Int} (h : On base Wb Pb A c w bs) (n : Nat) : On base Wb Pb A c (w.drewN n) bs :=
  ⟨h.bw, h.bp, h.ne, h.three, h.one, own_keep h.own (fun _ _ => rfl), h.aw, h.ap⟩
theorem Src.keep {w W : World} {A : Option Addr} {m : Nat} {ys : List Int} (h : Src w A m ys) (hk : ∀ k, k < w.heap.size → W.heap[k]? = w.heap[k]?) : Src W A m ys := by
  refine ⟨h.1, ?_⟩
  rcases h.2 with h2 | ⟨b, off, e, hc⟩
  · exact .inl h2
  · refine .inr ⟨b, off, e, fun i hi => ?_⟩
    have h0 := World.block_lt_of_cell? w ⟨b, off + i, none⟩ (hc i hi)
    rw [World.cell?_of_block (w := w) (a := ⟨b, off + i, none⟩) (hk b h0)]
    exact hc i hi

set_option maxHeartbeats 1000000 in
theorem c34o (base Wb Pb : Nat) (A0 : Option Addr) (c0 : Nat) (bs : List Int) (A : Option Addr) (m c : Nat) (ys : List Int) (w : World) (h : On base Wb Pb A0 c0 w bs) (hs : Src w A m ys) (hc : A = none → c = 0) (hl : bs.length + m ≤ 131072) :
    Calls Try.prog 34 #[.pointer (some ⟨Wb, 0, none⟩), .slice A m c] w fun e w' => e = .returned (.tuple #[]) ∧ (∃ A1 c1, On base Wb Pb A1 c1 w' (bs ++ ys)) ∧ Below base w w' := by
  obtain ⟨i0, hi, hz0, hz1, hz2⟩ := info_parts info5
  obtain ⟨h0, h1, h2⟩ := three_cell h.three
  have h3 := cell_of_one h.one
  have f1 := three_free h.three 1
  have fp := free_of_one h.one
  obtain ⟨l, hl'⟩ : ∃ l, bs.length = l := ⟨_, rfl⟩
  have H := Lib.hid h
  have HL := Lib.hid hl'
  have HS := Lib.hid hs
  have HCN := Lib.hid hc
  rw [hl'] at h1 h3 hl
  have hne : Wb ≠ Pb := Ne.symm h.ne
  have hlt : ¬ (131072 - (l : Int)) < (m : Int) := by omega
  have hd : decide ((l : Int) < (l : Int)) = false := by simp
  have HI := Lib.hid hi
  have HI0 := Lib.hid hz0
  have HI1 := Lib.hid hz1
  have HI2 := Lib.hid hz2
  have HB : Hid (base ≤ w.heap.size) := Nat.le_trans h.bw (Nat.le_of_lt (lt_of_block h.three))
  clear hi hz0 hz1 hz2 h hs hc hl'
  go_enter Try.func34, Try.ntmps34
  go_wp2_with fail
  go_quiet (fail)
  go_wp2
  clear h0 h1 h2 h3 f1 fp
  generalize hq : w.drewN _ = wq
  have H2 : Hid (On base Wb Pb A0 c0 wq bs) := by rw [← hq]; exact H.out.drewN _
  have S2 : Hid (Src wq A m ys) := by rw [← hq]; exact HS.out.keep (fun _ _ => rfl)
  have B2 : Hid (base ≤ wq.heap.size) := by rw [← hq]; exact HB.out
  have Q2 : Hid (∀ W', Below base wq W' → Below base w W') := fun W' h => by rw [← hq] at h; exact (Below.refl base w).trans ⟨h.os, h.tape, h.output, h.size, h.block⟩
  clear hq
  clear H HS HB
  obtain ⟨h0, h1, h2⟩ := three_cell H2.out.three
  have h3 := cell_of_one H2.out.one
  have S3 : Hid (Src wq.drew A m ys) := S2.out.keep (fun _ _ => rfl)
  have H3 : Hid (On base Wb Pb A0 c0 wq.drew bs) := H2.out.drew
  have hll := HL.out
  have HO : Hid (wq.drew.ownsRow base 5 1 (.slice A0 l c0) l (bvals bs)) := by rw [← hll]; exact H3.out.own
  rw [hll] at h1 h3
  clear hll
  go_region_law
    ((refine step_app rfl (.tmp 61) (.tmp 62) 25 rfl i0 Try.underlying25 HI.out HI0.out HI1.out HI2.out base l (.slice A0 l c0) bs (by simp [Act.eval]) HO.out A m c ys (by simp [Act.eval]) S3.out HCN.out (by unfold maxLen; omega) (by omega) B2.out ?_; intro A1 c1 w1 hown hg hat; have OW := Lib.hid hown; have GR := Lib.hid hg; have AT := Lib.hid hat; have q0 := three_cell (three_grown hg (by have := H3.out.aw; rw [HL.out] at this; exact Ne.symm this) H3.out.three); have q3 := three_free (three_grown hg (by have := H3.out.aw; rw [HL.out] at this; exact Ne.symm this) H3.out.three) 1; have q1 := (hg.block Pb (lt_of_block H3.out.one) (by have := H3.out.ap; rw [HL.out] at this; exact Ne.symm this)).trans H3.out.one; rw [HL.out] at q1; rw [HL.out] at q0; have q2 := cell_of_one q1; have q4 := free_of_one q1; clear hown hg hat q1))
  all_goals
    go_wp2
    go_end0
    obtain rfl := HL.out
    have M := H3.out.more S3.out.1 OW.out GR.out AT.out
    exact ⟨rfl, ⟨_, _, M.1⟩, Q2.out _ ((Below.refl base wq).drew.trans M.2)⟩
end Go.Proofs.Ytjkhbddnbpnmcaa
