/-
  Fill.
-/
import Derived.Test.YtdggnmlhgglccaaU46
import Derived.Test.YtdggnmlhgglccaaU23
namespace Go.Proofs.Ytdggnmlhgglccaa
open Go.RowKit
set_option maxRecDepth 100000
theorem fine_if {ps : List (List Int)} {cs : List Cn} {p : List Int} {x : Cn} (hf : Fine cs) : Fine (if cMay ps cs p x then insC ps cs p x else cs) := by
  split
  · rename_i h; exact ins_fine hf h
  · exact hf
theorem ins_le {ps : List (List Int)} {cs : List Cn} {p : List Int} {x : Cn} {i : Nat} (h : ps.length ≤ i) : (if cMay ps cs p x then insP ps p else ps).length ≤ i + 1 := by
  split
  · have := idxP_le ps p
    rw [insP_len]; omega
  · omega
theorem put_le {L : List Stp} {p : List Int} {x : Cn} {i : Nat} (h : L.length ≤ i) : (if mayAdd L p x then (⟨p, x, false⟩ : Stp) :: L else L).length ≤ i + 1 := by
  split
  · simp; omega
  · omega
theorem fine_nil : Fine [] := ⟨fun c h => (by cases h), by decide⟩
attribute [local irreducible] ptV cnV zeros MapC stV ptsV csV
set_option maxHeartbeats 8000000 in
theorem uFill (A0 : Option Addr) (len0 cap0 : Nat) (D : Nat → Dd) (w : World) (hd : DRow w A0 len0 D) (hok : ∀ i, (D i).ok) (h60 : len0 ≤ 100) :
    Calls Try.prog 18 #[.slice A0 len0 cap0] w fun e w' => ∃ (S B : Nat) (L : List Stp) (P : Nat → Prop) (ps : List (List Int)) (cs : List Cn) (Q : Nat → Prop), e = .returned (.tuple #[.pointer (some ⟨S, 0, none⟩), .pointer (some ⟨B, 0, none⟩)]) ∧ FW w.heap.size w w' S B L P ps cs Q ∧ L.length ≤ len0 ∧ ps.length ≤ len0 := by
  have CN := Lib.hid (uNew)
  have HD := Lib.hid hd
  have HOK := Lib.hid hok
  have H60 := Lib.hid h60
  obtain ⟨N, hN⟩ : ∃ N, w.heap.size = N := ⟨_, rfl⟩
  have HN := Lib.hid hN
  clear hd hok h60
  go_enter Try.func18, Try.ntmps18
  go_wp2_with (first
    | (go_at_call 8; refine (CN.out _).mono ?_; rintro e w1 ⟨rfl, g1, g2⟩; have G1 := Lib.hid g1; have G2 := Lib.hid g2; clear g1 g2)
    | fail)
  have F0 : Hid (∀ B, B = w1.heap.size → FW N w (w1.alloc (Obj.cells #[.slice none 0 0, .slice none 0 0] 30)) w.heap.size B [] (fun q => q = w.heap.size) [] [] (fun q => q = B)) := Lib.hid fun B hB => by
    subst hB
    have b1 : Below w1.heap.size w1 (w1.alloc (Obj.cells #[.slice none 0 0, .slice none 0 0] 30)) := (Below.refl _ _).alloc (Nat.le_refl _) _
    have lt := G1.out.plt w.heap.size rfl
    have hn := HN.out
    exact ⟨(by rw [← hn]; exact G2.out.trans (b1.mono G2.out.size)), by have := b1.size; omega, SetIs.grow G1.out b1, CoIs.nil _ _ (heap_alloc_last w1 _), fine_nil, fun q hq => by omega, fun q hq => by omega, fun q h1 h2 => by omega⟩
  obtain ⟨B, hB⟩ : ∃ B, w1.heap.size = B := ⟨_, rfl⟩
  have F1 := Lib.hid (F0.out B hB.symm)
  rw [hN] at F1
  clear F0 G1 G2 CN
  generalize w1.alloc (Obj.cells #[.slice none 0 0, .slice none 0 0] 30) = w5 at *
  rw [hB]
  clear hB hN
  go_loopw [6] (fun iv wr => ∃ (i : Nat) (L : List Stp) (P : Nat → Prop) (ps : List (List Int)) (cs : List Cn) (Q : Nat → Prop), i ≤ len0 ∧ iv = .int .i64 i ∧ FW N w wr N B L P ps cs Q ∧ L.length ≤ i ∧ ps.length ≤ i) (fun iv _ => len0 - (intOf iv).toNat)
  case atStart => exact ⟨0, [], _, [], [], _, Nat.zero_le _, rfl, F1.out, Nat.le_refl _, Nat.le_refl _⟩
  case round =>
    clear F1
    obtain ⟨i, L, P, ps, cs, Q, hi, rfl, hf, hLi, hpi⟩ := hrel
    by_cases hlt : i < len0
    · obtain ⟨d, hdi⟩ : ∃ d, D i = d := ⟨_, rfl⟩
      have HDO : Hid d.ok := Lib.hid (hdi ▸ HOK.out i)
      have HIN := Lib.hid (And.intro hlt H60.out)
      have AB : ∃ b o, A0 = some ⟨b, o, none⟩ ∧ b < N ∧ ∀ w', Below N w w' → w'.rangeAt b (o + i * 22) (dV d) := by
        rcases HD.out with h0 | ⟨b, o, e, hrow⟩
        · omega
        · have hb0 : b < N := by rw [← HN.out]; exact cell_lt (hrow i hlt 0 _ (by rfl))
          refine ⟨b, o, e, hb0, fun w' hb => ?_⟩
          rw [← hdi]
          exact range_keep1 (hrow i hlt) (hb.block b hb0)
      obtain ⟨b, o, rfl, hbN, hrow⟩ := AB
      have HBB := Lib.hid hbN
      have ROW := Lib.hid hrow
      have F1 := Lib.hid hf
      have i1 : (i : Int) < (len0 : Int) := by omega
      have i0 : (0 : Int) ≤ (i : Int) := by omega
      have HLI := Lib.hid (And.intro hLi hpi)
      have HLL : Hid (L.length < 1000) := Lib.hid (by have := H60.out; omega)
      have HPL : Hid (ps.length ≤ 1000) := Lib.hid (by have := H60.out; omega)
      have IW : Hid (wrap64 ((i : Int) + 1) = ((i + 1 : Nat) : Int)) := Lib.hid (by have := H60.out; unfold wrap64; omega)
      obtain ⟨r1, r2⟩ := dd_rng HDO.out (ROW.out wr F1.out.bel)
      have RP := Lib.hid r1
      have RC := Lib.hid r2
      clear hf hLi hpi hi hrow hdi hlt hbN r1 r2
      go_wp2_with fail
      have HBP : Hid (¬ P b) := Lib.hid fun e => by have := F1.out.la b e; have := HBB.out; omega
      obtain ⟨NX, hNX⟩ : ∃ n, wr.heap.size = n := ⟨_, rfl⟩
      have WX := Lib.hid hNX
      have HBN : Hid (b < NX) := Lib.hid (by have := HBB.out; have := F1.out.sz; omega)
      clear hNX
      refine wp_region_held_drew (S := (fun w' : World => ∀ q, q < NX → ¬ P q → w'.heap[q]? = wr.heap[q]?)) (by kernel_rfl) (by exact fun _ _ _ => rfl) (fun hHeld => ?_)
      refine wpAnyH_take (i := 0) (v := ?_) rfl (by kernel_rfl) (by kernel_rfl) (by kernel_rfl) (fun _ _ _ h => h) (Or.inl ⟨by rfl, ?_⟩) (by assumption) ?_
      rotate_left
      · (intro w hSw; (try dsimp only at hSw); go_simp; try with_reducible rfl)
      simp only [Act.put, List.getElem_toArray, List.getElem_cons_zero, List.setIfInBounds_toArray, List.set_cons_zero, List.set_cons_succ]
      refine wpAnyH_take (i := 1) (v := ?_) rfl (by kernel_rfl) (by kernel_rfl) (by kernel_rfl) (fun _ _ _ h => h) (Or.inl ⟨by rfl, ?_⟩) (by assumption) ?_
      rotate_left
      · (intro w hSw; (try dsimp only at hSw); go_simp; try with_reducible rfl)
      simp only [Act.put, List.getElem_toArray, List.getElem_cons_succ, List.getElem_cons_zero, List.setIfInBounds_toArray, List.set_cons_zero, List.set_cons_succ]
      refine wpAnyH_take (i := 2) (v := ?_) rfl (by kernel_rfl) (by kernel_rfl) (by kernel_rfl) (fun _ _ _ h => h) (Or.inl ⟨by rfl, ?_⟩) (by assumption) ?_
      rotate_left
      · (intro w hSw; (try dsimp only at hSw); go_simp; try with_reducible rfl)
      simp only [Act.put, List.getElem_toArray, List.getElem_cons_succ, List.getElem_cons_zero, List.setIfInBounds_toArray, List.set_cons_zero, List.set_cons_succ]
      refine wpAnyH_take (i := 3) (v := ?_) rfl (by kernel_rfl) (by kernel_rfl) (by kernel_rfl) (fun _ _ _ h => h) (Or.inl ⟨by rfl, ?_⟩) (by assumption) ?_
      rotate_left
      · (intro w hSw; (try dsimp only at hSw); go_simp; try with_reducible rfl)
      simp only [Act.put, List.getElem_toArray, List.getElem_cons_succ, List.getElem_cons_zero, List.setIfInBounds_toArray, List.set_cons_zero, List.set_cons_succ]
      refine wpAnyH_take (i := 4) (v := ?_) rfl (by kernel_rfl) (by kernel_rfl) (by kernel_rfl) (fun _ _ _ h => h) (Or.inl ⟨by rfl, ?_⟩) (by assumption) ?_
      rotate_left
      · (intro w hSw; (try dsimp only at hSw); go_simp; try with_reducible rfl)
      simp only [Act.put, List.getElem_toArray, List.getElem_cons_succ, List.getElem_cons_zero, List.setIfInBounds_toArray, List.set_cons_zero, List.set_cons_succ]
      refine wpAnyH_take (i := 5) rfl (by kernel_rfl) (by kernel_rfl) (by kernel_rfl) (fun _ _ _ h => h) (yieldsIf_load_mid (by rfl) 38 (.tmp 24) rfl b (o + i * 22 + 2) rfl (ptV d.p) _ (fun w h => range_keep1 RP.out (h b HBN.out HBP.out)) Try.underlying38 rfl (szP HDO.out.1)) (by assumption) ?_
      simp only [Act.put, List.getElem_toArray, List.getElem_cons_succ, List.getElem_cons_zero, List.setIfInBounds_toArray, List.set_cons_zero, List.set_cons_succ]
      refine wpAnyH_take (i := 6) (v := ?_) rfl (by kernel_rfl) (by kernel_rfl) (by kernel_rfl) (fun _ _ _ h => h) (Or.inl ⟨by rfl, ?_⟩) (by assumption) ?_
      rotate_left
      · (intro w hSw; (try dsimp only at hSw); go_simp; try with_reducible rfl)
      simp only [Act.put, List.getElem_toArray, List.getElem_cons_succ, List.getElem_cons_zero, List.setIfInBounds_toArray, List.set_cons_zero, List.set_cons_succ]
      refine wpAnyH_take (i := 7) (v := ?_) rfl (by kernel_rfl) (by kernel_rfl) (by kernel_rfl) (fun _ _ _ h => h) (Or.inl ⟨by rfl, ?_⟩) (by assumption) ?_
      rotate_left
      · (intro w hSw; (try dsimp only at hSw); go_simp; try with_reducible rfl)
      simp only [Act.put, List.getElem_toArray, List.getElem_cons_succ, List.getElem_cons_zero, List.setIfInBounds_toArray, List.set_cons_zero, List.set_cons_succ]
      refine wpAnyH_take (i := 8) (v := ?_) rfl (by kernel_rfl) (by kernel_rfl) (by kernel_rfl) (fun _ _ _ h => h) (Or.inl ⟨by rfl, ?_⟩) (by assumption) ?_
      rotate_left
      · (intro w hSw; (try dsimp only at hSw); go_simp; try with_reducible rfl)
      simp only [Act.put, List.getElem_toArray, List.getElem_cons_succ, List.getElem_cons_zero, List.setIfInBounds_toArray, List.set_cons_zero, List.set_cons_succ]
      refine wpAnyH_take (i := 9) (v := ?_) rfl (by kernel_rfl) (by kernel_rfl) (by kernel_rfl) (fun _ _ _ h => h) (Or.inl ⟨by rfl, ?_⟩) (by assumption) ?_
      rotate_left
      · (intro w hSw; (try dsimp only at hSw); go_simp; try with_reducible rfl)
      simp only [Act.put, List.getElem_toArray, List.getElem_cons_succ, List.getElem_cons_zero, List.setIfInBounds_toArray, List.set_cons_zero, List.set_cons_succ]
      refine wpAnyH_take (i := 10) rfl (by kernel_rfl) (by kernel_rfl) (by kernel_rfl) (fun _ _ _ h => h) (yieldsIf_load_mid (by rfl) 42 (.tmp 29) rfl b (o + i * 22 + 11) rfl (cnV d.c) _ (fun w h => range_keep1 RC.out (h b HBN.out HBP.out)) Try.underlying42 rfl (szL i42c (cnV_len HDO.out.2.1.len))) (by assumption) ?_
      simp only [Act.put, List.getElem_toArray, List.getElem_cons_succ, List.getElem_cons_zero, List.setIfInBounds_toArray, List.set_cons_zero, List.set_cons_succ]
      refine wpAnyH_ready (rs := [11]) (by kernel_rfl) (by simp) ?_
      refine AllReadyH.cons rfl (fun K hK => ?_) AllReadyH.nil
      go_simp
      go_at_call 12
      refine (uCoin d.c _ HDO.out.2.1.len).mono ?_
      rintro e wy ⟨rfl, hba⟩
      have F2 := Lib.hid ((F1.out.grow (Below.refl _ _).drew).grow hba)
      have XY : Hid (∀ q, q < NX → ¬ P q → wy.heap[q]? = wr.heap[q]?) := Lib.hid fun q hq _ => hba.block q (by have := WX.out; show q < wr.heap.size; omega)
      have SY : Hid (NX ≤ wy.heap.size) := Lib.hid (by have := hba.size; have := WX.out; have : wr.heap.size ≤ wy.heap.size := hba.size; omega)
      clear hba hHeld
      (try go_wp2_with fail)
      refine hK.out _ _ XY.out (fun hHeld => ?_)
      clear hK K
      refine wpAnyH_ready (rs := [12]) (by kernel_rfl) (by simp) ?_
      refine AllReadyH.cons rfl (fun K hK => ?_) AllReadyH.nil
      go_simp
      go_at_call 11
      refine (uAddC N L P d.p d.c _ F2.out.a HDO.out.1 HDO.out.2.1 HLL.out).mono ?_
      rintro e wz ⟨rfl, P2, g1, g2, g3⟩
      have F3 := Lib.hid (F2.out.turnA g1 g2 g3)
      have XZ : Hid (∀ q, q < NX → ¬ P q → wz.heap[q]? = wr.heap[q]?) := Lib.hid fun q hq hn => (g3.block q (by have := SY.out; omega) hn).trans (XY.out q hq hn)
      clear g1 g2 g3 hHeld
      (try go_wp2_with fail)
      refine hK.out _ _ XZ.out (fun hHeld => ?_)
      clear hK K hHeld
      refine wpAnyH_done (by kernel_rfl) ?_ _
      clear XY XZ SY WX HBN HBP F2
      go_upto_region 6 with (fail)
      obtain ⟨r1, r2⟩ := dd_rng HDO.out (ROW.out wz F3.out.bel)
      have RPz := Lib.hid r1
      have RCz := Lib.hid r2
      clear r1 r2
      have HBP : Hid (¬ Q b) := Lib.hid fun e => by have := F3.out.lb b e; have := HBB.out; omega
      obtain ⟨NZ, hNX⟩ : ∃ n, wz.heap.size = n := ⟨_, rfl⟩
      have WX := Lib.hid hNX
      have HBN : Hid (b < NZ) := Lib.hid (by have := HBB.out; have := F3.out.sz; omega)
      clear hNX
      refine wp_region_held_drew (S := (fun w' : World => ∀ q, q < NZ → ¬ Q q → w'.heap[q]? = wz.heap[q]?)) (by kernel_rfl) (by exact fun _ _ _ => rfl) (fun hHeld => ?_)
      refine wpAnyH_take (i := 0) (v := ?_) rfl (by kernel_rfl) (by kernel_rfl) (by kernel_rfl) (fun _ _ _ h => h) (Or.inl ⟨by rfl, ?_⟩) (by assumption) ?_
      rotate_left
      · (intro w hSw; (try dsimp only at hSw); go_simp; try with_reducible rfl)
      simp only [Act.put, List.getElem_toArray, List.getElem_cons_zero, List.setIfInBounds_toArray, List.set_cons_zero, List.set_cons_succ]
      refine wpAnyH_take (i := 1) (v := ?_) rfl (by kernel_rfl) (by kernel_rfl) (by kernel_rfl) (fun _ _ _ h => h) (Or.inl ⟨by rfl, ?_⟩) (by assumption) ?_
      rotate_left
      · (intro w hSw; (try dsimp only at hSw); go_simp; try with_reducible rfl)
      simp only [Act.put, List.getElem_toArray, List.getElem_cons_succ, List.getElem_cons_zero, List.setIfInBounds_toArray, List.set_cons_zero, List.set_cons_succ]
      refine wpAnyH_take (i := 2) (v := ?_) rfl (by kernel_rfl) (by kernel_rfl) (by kernel_rfl) (fun _ _ _ h => h) (Or.inl ⟨by rfl, ?_⟩) (by assumption) ?_
      rotate_left
      · (intro w hSw; (try dsimp only at hSw); go_simp; try with_reducible rfl)
      simp only [Act.put, List.getElem_toArray, List.getElem_cons_succ, List.getElem_cons_zero, List.setIfInBounds_toArray, List.set_cons_zero, List.set_cons_succ]
      refine wpAnyH_take (i := 3) (v := ?_) rfl (by kernel_rfl) (by kernel_rfl) (by kernel_rfl) (fun _ _ _ h => h) (Or.inl ⟨by rfl, ?_⟩) (by assumption) ?_
      rotate_left
      · (intro w hSw; (try dsimp only at hSw); go_simp; try with_reducible rfl)
      simp only [Act.put, List.getElem_toArray, List.getElem_cons_succ, List.getElem_cons_zero, List.setIfInBounds_toArray, List.set_cons_zero, List.set_cons_succ]
      refine wpAnyH_take (i := 4) (v := ?_) rfl (by kernel_rfl) (by kernel_rfl) (by kernel_rfl) (fun _ _ _ h => h) (Or.inl ⟨by rfl, ?_⟩) (by assumption) ?_
      rotate_left
      · (intro w hSw; (try dsimp only at hSw); go_simp; try with_reducible rfl)
      simp only [Act.put, List.getElem_toArray, List.getElem_cons_succ, List.getElem_cons_zero, List.setIfInBounds_toArray, List.set_cons_zero, List.set_cons_succ]
      refine wpAnyH_take (i := 5) rfl (by kernel_rfl) (by kernel_rfl) (by kernel_rfl) (fun _ _ _ h => h) (yieldsIf_load_mid (by rfl) 38 (.tmp 37) rfl b (o + i * 22 + 2) rfl (ptV d.p) _ (fun w h => range_keep1 RPz.out (h b HBN.out HBP.out)) Try.underlying38 rfl (szP HDO.out.1)) (by assumption) ?_
      simp only [Act.put, List.getElem_toArray, List.getElem_cons_succ, List.getElem_cons_zero, List.setIfInBounds_toArray, List.set_cons_zero, List.set_cons_succ]
      refine wpAnyH_take (i := 6) (v := ?_) rfl (by kernel_rfl) (by kernel_rfl) (by kernel_rfl) (fun _ _ _ h => h) (Or.inl ⟨by rfl, ?_⟩) (by assumption) ?_
      rotate_left
      · (intro w hSw; (try dsimp only at hSw); go_simp; try with_reducible rfl)
      simp only [Act.put, List.getElem_toArray, List.getElem_cons_succ, List.getElem_cons_zero, List.setIfInBounds_toArray, List.set_cons_zero, List.set_cons_succ]
      refine wpAnyH_take (i := 7) (v := ?_) rfl (by kernel_rfl) (by kernel_rfl) (by kernel_rfl) (fun _ _ _ h => h) (Or.inl ⟨by rfl, ?_⟩) (by assumption) ?_
      rotate_left
      · (intro w hSw; (try dsimp only at hSw); go_simp; try with_reducible rfl)
      simp only [Act.put, List.getElem_toArray, List.getElem_cons_succ, List.getElem_cons_zero, List.setIfInBounds_toArray, List.set_cons_zero, List.set_cons_succ]
      refine wpAnyH_take (i := 8) (v := ?_) rfl (by kernel_rfl) (by kernel_rfl) (by kernel_rfl) (fun _ _ _ h => h) (Or.inl ⟨by rfl, ?_⟩) (by assumption) ?_
      rotate_left
      · (intro w hSw; (try dsimp only at hSw); go_simp; try with_reducible rfl)
      simp only [Act.put, List.getElem_toArray, List.getElem_cons_succ, List.getElem_cons_zero, List.setIfInBounds_toArray, List.set_cons_zero, List.set_cons_succ]
      refine wpAnyH_take (i := 9) (v := ?_) rfl (by kernel_rfl) (by kernel_rfl) (by kernel_rfl) (fun _ _ _ h => h) (Or.inl ⟨by rfl, ?_⟩) (by assumption) ?_
      rotate_left
      · (intro w hSw; (try dsimp only at hSw); go_simp; try with_reducible rfl)
      simp only [Act.put, List.getElem_toArray, List.getElem_cons_succ, List.getElem_cons_zero, List.setIfInBounds_toArray, List.set_cons_zero, List.set_cons_succ]
      refine wpAnyH_take (i := 10) rfl (by kernel_rfl) (by kernel_rfl) (by kernel_rfl) (fun _ _ _ h => h) (yieldsIf_load_mid (by rfl) 42 (.tmp 42) rfl b (o + i * 22 + 11) rfl (cnV d.c) _ (fun w h => range_keep1 RCz.out (h b HBN.out HBP.out)) Try.underlying42 rfl (szL i42c (cnV_len HDO.out.2.1.len))) (by assumption) ?_
      simp only [Act.put, List.getElem_toArray, List.getElem_cons_succ, List.getElem_cons_zero, List.setIfInBounds_toArray, List.set_cons_zero, List.set_cons_succ]
      refine wpAnyH_ready (rs := [11]) (by kernel_rfl) (by simp) ?_
      refine AllReadyH.cons rfl (fun K hK => ?_) AllReadyH.nil
      go_simp
      go_at_call 10
      refine (cAdd (F3.out.grow (Below.refl _ _).drew).b HDO.out.1 HDO.out.2.1 F3.out.fine HPL.out).mono ?_
      rintro e wv ⟨rfl, Q2, g1, g2, g3⟩
      have F4 := Lib.hid ((F3.out.grow (Below.refl _ _).drew).turnB g1 (fine_if F3.out.fine) g2 g3)
      have XZ : Hid (∀ q, q < NZ → ¬ Q q → wv.heap[q]? = wz.heap[q]?) := Lib.hid fun q hq hn => g3.block q (by have := WX.out; show q < wz.heap.size; omega) hn
      clear g1 g2 g3 hHeld
      (try go_wp2_with fail)
      refine hK.out _ _ XZ.out (fun hHeld => ?_)
      clear hK K hHeld
      refine wpAnyH_done (by kernel_rfl) ?_ _
      clear XZ WX HBN HBP
      go_wp2_with fail
      go_roundw
      case rel => exact ⟨i + 1, _, _, _, _, _, HIN.out.1, congrArg _ IW.out, F4.out, put_le HLI.out.1, ins_le HLI.out.2⟩
      case measure => exact meas_up IW.out HIN.out.1
    · obtain rfl : i = len0 := by omega
      have R := Lib.hid (And.intro hf (And.intro hLi hpi))
      clear hf hLi hpi hi hlt
      go_wp2_with fail
      go_ret2
      exact ⟨N, B, L, P, ps, cs, Q, rfl, HN.out ▸ R.out.1, R.out.2.1, R.out.2.2⟩
end Go.Proofs.Ytdggnmlhgglccaa
