/-
  UtxoSums: the walk.
-/
import Derived.Test.YtdggnmlhgglccaaU48
namespace Go.Proofs.Ytdggnmlhgglccaa
open Go.RowKit
set_option maxRecDepth 100000
theorem quiet_skip {ops : Array Oper} {o : Oper} {a : Act} {K : Act → Prop} {E : Prop} (hw : Region.wanted o (yielded ops a.tmps) = false) (hK : K (a.put o.dst undef)) : if Region.wanted o (yielded ops a.tmps) = true then E else K (a.put o.dst undef) := by
  rw [if_neg (by rw [hw]; decide)]
  exact hK
theorem scSpend0 {N : Nat} {w0 w : World} {S : Nat} {L : List Stp} {A : Option Addr} {ps : List (List Int)} {F : Nat} {c : Cn} {p : List Int} (h : SC N w0 w S L A ps F c) (hp : okP p) (hl : L.length < 1000) (hF : setF L p = none) :
    Calls Try.prog 14 #[.pointer (some ⟨S, 0, none⟩), .agg (ptV p).toArray] w fun e w' => e = .returned (.tuple #[.agg (cnV cn0).toArray, .bool false]) ∧ SC N w0 w' S L A ps F c := by
  obtain ⟨P, h1, h2, h3⟩ := h
  have := uSpend S L P p w h1.a hp hl
  rw [hF, spend_no hF] at this
  exact this.mono fun e w' ⟨e1, P', g1, g2, g3⟩ => ⟨e1, SC.turn h1 h2 h3 g1 g2 g3⟩
theorem scGet0 {N : Nat} {w0 w : World} {S : Nat} {L : List Stp} {A : Option Addr} {ps : List (List Int)} {F : Nat} {c : Cn} {p : List Int} (h : SC N w0 w S L A ps F c) (hp : okP p) (hF : setF L p = none) :
    Calls Try.prog 21 #[.pointer (some ⟨S, 0, none⟩), .agg (ptV p).toArray] w fun e w' => e = .returned (.tuple #[.agg (cnV cn0).toArray, .bool false]) ∧ SC N w0 w' S L A ps F c := by
  obtain ⟨P, h1, h2, h3⟩ := h
  have := uGet S L P p w h1.a hp
  rw [hF] at this
  exact this.mono fun e w' ⟨e1, g1⟩ => ⟨e1, SC.grow ⟨P, h1, h2, h3⟩ g1⟩
theorem scTot {N : Nat} {w0 w : World} {S : Nat} {L : List Stp} {A : Option Addr} {ps : List (List Int)} {F : Nat} {c : Cn} (h : SC N w0 w S L A ps F c) :
    Calls Try.prog 23 #[.pointer (some ⟨S, 0, none⟩)] w fun e w' => e = .returned (.int .i64 (setT L)) ∧ w = w' := by
  obtain ⟨P, h1, h2, h3⟩ := h
  exact uTot S L P w h1.a
attribute [local irreducible] ptV cnV zeros MapC stV ptsV csV wpQuiet
set_option maxHeartbeats 8000000 in
theorem q5 (A0 : Option Addr) (len0 cap0 : Nat) (D : Nat → Dd) (w : World) (hd : DRow w A0 len0 D) (hok : ∀ i, (D i).ok) (hlc : len0 ≤ cap0) (hc0 : cap0 ≤ 9223372036854775807) :
    Calls Try.prog 5 #[.slice A0 len0 cap0] w fun e w' => e = .returned (.bool true) ∧ Below w.heap.size w w' := by
  have AW := Lib.hid uAwake
  have HL0 := Lib.hid (And.intro hlc hc0)
  have HD := Lib.hid hd
  have HOK := Lib.hid hok
  clear hlc hc0 hd hok
  by_cases h60 : len0 > 60
  · have g60 : decide ((60 : Int) < (len0 : Int)) = true := by simp; omega
    clear h60
    go_enter Try.func5, Try.ntmps5
    go_wp2_with (first
      | (go_at_call 7; refine (AW.out _).mono ?_; rintro e w1 ⟨rfl, hb⟩; have B1 := Lib.hid hb; clear hb)
      | fail)
    go_ret
    exact ⟨rfl, B1.out⟩
  have g60 : decide ((60 : Int) < (len0 : Int)) = false := by simp; omega
  have H60 : Hid (len0 ≤ 60) := Lib.hid (by omega)
  have CF : Hid (∀ w1, Below w.heap.size w w1 → Calls Try.prog 18 #[.slice A0 len0 cap0] w1 fun e w' => ∃ (S B : Nat) (L : List Stp) (P : Nat → Prop) (ps : List (List Int)) (cs : List Cn) (Q : Nat → Prop), e = .returned (.tuple #[.pointer (some ⟨S, 0, none⟩), .pointer (some ⟨B, 0, none⟩)]) ∧ FW w1.heap.size w1 w' S B L P ps cs Q ∧ L.length ≤ len0 ∧ ps.length ≤ len0) := Lib.hid fun w1 hb => uFill A0 len0 cap0 D w1 (HD.out.keep hb) HOK.out (by have := H60.out; omega)
  obtain ⟨N, hN⟩ : ∃ N, w.heap.size = N := ⟨_, rfl⟩
  have HN := Lib.hid hN
  rw [hN]
  clear h60 hN
  go_enter Try.func5, Try.ntmps5
  go_wp2_with (first
    | (go_at_call 7; refine (AW.out _).mono ?_; clear AW; rintro e w1 ⟨rfl, hb⟩; have B1 := Lib.hid hb; clear hb)
    | (go_at_call 18; refine (CF.out w1 B1.out).mono ?_; rintro e w2 ⟨S, B, L, P, ps0, cs0, Q0, rfl, f1, f2, f3⟩; have FF := Lib.hid f1; have FL := Lib.hid f2; clear f1 f2 f3)
    | (go_at_call 20; refine (uPoints2 S L P w2 FF.out.a (by have := FL.out; have := H60.out; omega)).mono ?_; rintro e w3 ⟨A, c9, ps, rfl, r1, r2, r3, r4⟩; have R1 := Lib.hid r1; have ORD := Lib.hid r2; have R3 := Lib.hid r3; have R4 := Lib.hid r4; clear r1 r2 r3 r4)
    | fail)
  have OK : Hid (okS L) := Lib.hid (Set2.ok FF.out.a)
  have SW3 : Hid (SW N w w3 S L P A ps) := Lib.hid (by
    rw [← HN.out]
    have n1 := B1.out.size
    have n2 := FF.out.bel.size
    refine ⟨(B1.out.trans (FF.out.bel.mono n1)).trans (R3.out.mono (by omega)), by have := R3.out.size; omega, FF.out.a.grow R3.out, fun q hq => by have := FF.out.la q hq; omega, ?_⟩
    rcases R1.out with h | ⟨g, e, hg, hr⟩
    · exact .inl h
    · exact .inr ⟨g, e, hg, fun hp => by have := FF.out.a.plt g hp; have := R4.out g e; omega, hr⟩)
  have PL : Hid (ps.length ≤ 60 ∧ ps.length = setN L ∧ L.length ≤ 60) := Lib.hid (by
    have h1 := (sF_all OK.out ORD.out).2
    have h2 := setN_le L
    have h3 := FL.out
    have h4 := H60.out
    exact ⟨by omega, h1, by omega⟩)
  clear R1 R3 R4 FF FL CF g60
  go_wp2
  go_loopw [7, 6] (fun iv sv wr => ∃ (i : Nat) (P1 : Nat → Prop), i ≤ ps.length ∧ iv = .int .i64 i ∧ sv = .int .i64 (sF (setF L) (ps.take i)) ∧ SW N w wr S L P1 A ps) (fun iv _ _ => ps.length - (intOf iv).toNat)
  case atStart => exact ⟨0, P, Nat.zero_le _, rfl, rfl, SW3.out⟩
  case round =>
    clear SW3
    obtain ⟨i, P1, hi, rfl, rfl, hsw⟩ := hrel
    by_cases hlt : i < ps.length
    · obtain ⟨c, hc, hpo, hco⟩ := pt_there OK.out ORD.out hlt
      obtain ⟨g, rfl, hg, hn, hr⟩ := hsw.pt hlt
      have WS : Hid (wrap64 (sF (setF L) (ps.take i) + amt c) = sF (setF L) (ps.take (i + 1))) := Lib.hid (by
        rw [(sF_snoc hlt hc).1]
        have h1 := sF_bnd OK.out ORD.out i
        have h2 := sF_bnd OK.out ORD.out (i + 1)
        rw [(sF_snoc hlt hc).1] at h2
        unfold maxM at h1 h2
        unfold wrap64; omega)
      obtain ⟨p, hp⟩ : ∃ p, ps.getD i [] = p := ⟨_, rfl⟩
      obtain ⟨m, hm⟩ : ∃ m, amt c = m := ⟨_, rfl⟩
      rw [hp] at hc hpo hr
      rw [hm] at WS
      have HPE := Lib.hid hp
      have HPO := Lib.hid hpo
      have HCO := Lib.hid hco
      have HM := Lib.hid hm
      have HLT := Lib.hid hlt
      have HNE : Hid (setF L p ≠ none) := Lib.hid (by rw [hc]; exact fun e => by cases e)
      have HLL : Hid (L.length < 1000) := Lib.hid (by have := PL.out.2.2; omega)
      have IW : Hid (wrap64 ((i : Int) + 1) = ((i + 1 : Nat) : Int)) := Lib.hid (by have := PL.out.1; unfold wrap64; omega)
      have i0 : (0 : Int) ≤ (i : Int) := by omega
      have i1 : (i : Int) < (ps.length : Int) := by omega
      have i2 : i < ps.length := hlt
      have CG := uGet S L P1 p wr hsw.a hpo
      rw [hc] at CG
      have CG : Hid (Calls Try.prog 21 #[.pointer (some ⟨S, 0, none⟩), .agg (ptV p).toArray] wr fun e w' => e = .returned (.tuple #[.agg (cnV c).toArray, .bool true]) ∧ Below wr.heap.size wr w') := CG
      have SW1 := Lib.hid hsw
      have RG := Lib.hid hr
      clear hi hlt hc hpo hco hp hm hsw hr hn hg
      have hz : ∀ w, (zeroValue 47).run Try.prog w = .ok (.agg (cnV cn0).toArray) w := z47
      go_upto_region 14 with (first
        | (refine wpList_load_midG (by rfl) 38 (.tmp 41) rfl g (i * 9) rfl (ptV p) _ RG.out Try.underlying38 rfl (szP HPO.out) ?_)
        | (go_at_call 21; refine CG.out.mono ?_; rintro e wg ⟨rfl, hb⟩; have SWG := Lib.hid (SW1.out.grow hb); clear hb)
        | (refine wpList_store_rowTo rfl 47 (.tmp 8) (.tmp 44) rfl rfl _ (cnV c).toArray rfl rfl 47 _ (heap_alloc_last wg _) (szCA HCO.out.len) (szCC cn0_len HCO.out.len) (all_oneCell_toArray (cn_one c)) ?_)
        | fail)
      have SCB : Hid (SC N w ((wg.alloc (Obj.cells (cnV cn0).toArray 47)).setRow wg.heap.size (cnV c).toArray) S L (some ⟨g, 0, none⟩) ps wg.heap.size c) := Lib.hid
        ⟨P1, SWG.out.grow (below_setRow ((Below.refl _ wg).alloc (Nat.le_refl _) _) (Nat.le_refl _) _), setRow_heap _ _ _ _ _ _ (heap_alloc_last wg _), fun hp => by have := SWG.out.a.plt _ hp; omega⟩
      obtain ⟨F, hF⟩ : ∃ F, wg.heap.size = F := ⟨_, rfl⟩
      rw [hF] at SCB ⊢
      generalize (wg.alloc (Obj.cells (cnV cn0).toArray 47)).setRow F (cnV c).toArray = wb at SCB ⊢
      clear hF SWG SW1 RG CG hz
      by_cases hi0 : i = 0
      · have IP : Hid (¬ ((0 : Int) < (i : Int))) := Lib.hid (by omega)
        clear hi0
        refine wp_region_class (C := fun W => SC N w W S L (some ⟨g, 0, none⟩) ps F c) (by kernel_rfl) (by kernel_rfl) (SCB.out.grow (Below.refl _ wb).drew) ?_
        refine wpQuiet_step (fun K hK => ?_)
        refine quiet_val (by rfl) (v := ?_) ?_ (hK _ ?_)
        rotate_left
        · (intro w hSw; go_simp; try with_reducible rfl)
        clear hK K
        simp only [Act.put, List.setIfInBounds_toArray, List.set_cons_zero, List.set_cons_succ]
        refine wpQuiet_step (fun K hK => ?_)
        refine quiet_val (by rfl) (v := ?_) ?_ (hK _ ?_)
        rotate_left
        · (intro w hSw; go_simp; try with_reducible rfl)
        clear hK K
        simp only [Act.put, List.setIfInBounds_toArray, List.set_cons_zero, List.set_cons_succ]
        refine wpQuiet_step (fun K hK => ?_)
        refine quiet_val (by rfl) (v := ?_) ?_ (hK _ ?_)
        rotate_left
        · (intro w hSw; go_simp; try with_reducible rfl)
        clear hK K
        simp only [Act.put, List.setIfInBounds_toArray, List.set_cons_zero, List.set_cons_succ]
        refine wpQuiet_step (fun K hK => ?_)
        refine quiet_val (by rfl) (v := ?_) ?_ (hK _ ?_)
        rotate_left
        · (intro w hSw; go_simp; try with_reducible rfl)
        clear hK K
        simp only [Act.put, List.setIfInBounds_toArray, List.set_cons_zero, List.set_cons_succ]
        refine wpQuiet_step (fun K hK => ?_)
        refine quiet_val (by rfl) (v := ?_) ?_ (hK _ ?_)
        rotate_left
        · (intro w hSw; go_simp; try with_reducible rfl)
        clear hK K
        simp only [Act.put, List.setIfInBounds_toArray, List.set_cons_zero, List.set_cons_succ]
        refine wpQuiet_step (fun K hK => ?_)
        refine quiet_val (by rfl) (v := ?_) ?_ (hK _ ?_)
        rotate_left
        · (intro w hSw; go_simp; try with_reducible rfl)
        clear hK K
        simp only [Act.put, List.setIfInBounds_toArray, List.set_cons_zero, List.set_cons_succ]
        refine wpQuiet_step (fun K hK => ?_)
        refine quiet_val (by rfl) (v := ?_) ?_ (hK _ ?_)
        rotate_left
        · (intro w hSw; go_simp; try with_reducible rfl)
        clear hK K
        simp only [Act.put, List.setIfInBounds_toArray, List.set_cons_zero, List.set_cons_succ]
        refine wpQuiet_step (fun K hK => ?_)
        refine quiet_load (by rfl) 38 (.tmp 52) rfl g (i * 9) rfl (ptV p) _ (fun w h => by have := SC.pt h HLT.out; rw [HPE.out] at this; exact this) Try.underlying38 rfl (szP HPO.out) (hK _ ?_)
        clear hK K
        simp only [Act.put, List.setIfInBounds_toArray, List.set_cons_zero, List.set_cons_succ]
        refine wpQuiet_step (fun K hK => ?_)
        refine quiet_load (by rfl) 47 (.tmp 8) rfl F (0) rfl (cnV c) _ (fun w h => SC.cn h) Try.underlying47 rfl (szC HCO.out.len) (hK _ ?_)
        clear hK K
        simp only [Act.put, List.setIfInBounds_toArray, List.set_cons_zero, List.set_cons_succ]
        refine wpQuiet_step (fun K hK => ?_)
        refine quiet_call (by rfl) 11 #[.pointer (some ⟨S, 0, none⟩), .agg (ptV p).toArray, .agg (cnV c).toArray] ?_ (fun w hw => scAdd hw HPO.out HCO.out HLL.out HNE.out) (hK _ ?_)
        · (intro w hSw; go_simp; try with_reducible rfl)
        clear hK K
        simp only [Act.put, List.setIfInBounds_toArray, List.set_cons_zero, List.set_cons_succ]
        refine wpQuiet_step (fun K hK => ?_)
        refine quiet_val (by rfl) (v := ?_) ?_ (hK _ ?_)
        rotate_left
        · (intro w hSw; go_simp; try with_reducible rfl)
        clear hK K
        simp only [Act.put, List.setIfInBounds_toArray, List.set_cons_zero, List.set_cons_succ]
        refine wpQuiet_step (fun K hK => ?_)
        refine quiet_val (by rfl) (v := ?_) ?_ (hK _ ?_)
        rotate_left
        · (intro w hSw; go_simp; try with_reducible rfl)
        clear hK K
        simp only [Act.put, List.setIfInBounds_toArray, List.set_cons_zero, List.set_cons_succ]
        refine wpQuiet_step (fun K hK => ?_)
        refine quiet_val (by rfl) (v := ?_) ?_ (hK _ ?_)
        rotate_left
        · (intro w hSw; go_simp; try with_reducible rfl)
        clear hK K
        simp only [Act.put, List.setIfInBounds_toArray, List.set_cons_zero, List.set_cons_succ]
        refine wpQuiet_step (fun K hK => ?_)
        refine quiet_val (by rfl) (v := ?_) ?_ (hK _ ?_)
        rotate_left
        · (intro w hSw; go_simp; try with_reducible rfl)
        clear hK K
        simp only [Act.put, List.setIfInBounds_toArray, List.set_cons_zero, List.set_cons_succ]
        simp only [show decide (0 < i) = false from decide_eq_false (fun h => IP.out (by omega))]
        refine wpQuiet_step (fun K hK => ?_)
        refine quiet_val (by rfl) (v := ?_) ?_ (hK _ ?_)
        rotate_left
        · (intro w hSw; go_simp; try with_reducible rfl)
        clear hK K
        simp only [Act.put, List.setIfInBounds_toArray, List.set_cons_zero, List.set_cons_succ]
        refine wpQuiet_step (fun K hK => ?_)
        refine quiet_skip (by kernel_rfl) (hK _ ?_)
        clear hK K
        simp only [Act.put, List.setIfInBounds_toArray, List.set_cons_zero, List.set_cons_succ]
        refine wpQuiet_step (fun K hK => ?_)
        refine quiet_skip (by kernel_rfl) (hK _ ?_)
        clear hK K
        simp only [Act.put, List.setIfInBounds_toArray, List.set_cons_zero, List.set_cons_succ]
        refine wpQuiet_step (fun K hK => ?_)
        refine quiet_skip (by kernel_rfl) (hK _ ?_)
        clear hK K
        simp only [Act.put, List.setIfInBounds_toArray, List.set_cons_zero, List.set_cons_succ]
        refine wpQuiet_step (fun K hK => ?_)
        refine quiet_skip (by kernel_rfl) (hK _ ?_)
        clear hK K
        simp only [Act.put, List.setIfInBounds_toArray, List.set_cons_zero, List.set_cons_succ]
        refine wpQuiet_step (fun K hK => ?_)
        refine quiet_skip (by kernel_rfl) (hK _ ?_)
        clear hK K
        simp only [Act.put, List.setIfInBounds_toArray, List.set_cons_zero, List.set_cons_succ]
        refine wpQuiet_step (fun K hK => ?_)
        refine quiet_skip (by kernel_rfl) (hK _ ?_)
        clear hK K
        simp only [Act.put, List.setIfInBounds_toArray, List.set_cons_zero, List.set_cons_succ]
        refine wpQuiet_step (fun K hK => ?_)
        refine quiet_skip (by kernel_rfl) (hK _ ?_)
        clear hK K
        simp only [Act.put, List.setIfInBounds_toArray, List.set_cons_zero, List.set_cons_succ]
        refine wpQuiet_step (fun K hK => ?_)
        refine quiet_skip (by kernel_rfl) (hK _ ?_)
        clear hK K
        simp only [Act.put, List.setIfInBounds_toArray, List.set_cons_zero, List.set_cons_succ]
        refine wpQuiet_step (fun K hK => ?_)
        refine quiet_skip (by kernel_rfl) (hK _ ?_)
        clear hK K
        simp only [Act.put, List.setIfInBounds_toArray, List.set_cons_zero, List.set_cons_succ]
        refine wpQuiet_step (fun K hK => ?_)
        refine quiet_skip (by kernel_rfl) (hK _ ?_)
        clear hK K
        simp only [Act.put, List.setIfInBounds_toArray, List.set_cons_zero, List.set_cons_succ]
        refine wpQuiet_step (fun K hK => ?_)
        refine quiet_skip (by kernel_rfl) (hK _ ?_)
        clear hK K
        simp only [Act.put, List.setIfInBounds_toArray, List.set_cons_zero, List.set_cons_succ]
        refine wpQuiet_step (fun K hK => ?_)
        refine quiet_val (by rfl) (v := ?_) ?_ (hK _ ?_)
        rotate_left
        · (intro w hSw; go_simp; try with_reducible rfl)
        clear hK K
        simp only [Act.put, List.setIfInBounds_toArray, List.set_cons_zero, List.set_cons_succ]
        refine wpQuiet_step (fun K hK => ?_)
        refine quiet_val (by rfl) (v := ?_) ?_ (hK _ ?_)
        rotate_left
        · (intro w hSw; go_simp; try with_reducible rfl)
        clear hK K
        simp only [Act.put, List.setIfInBounds_toArray, List.set_cons_zero, List.set_cons_succ]
        refine wpQuiet_nil ?_
        intro wq hq
        have SCQ := Lib.hid hq
        clear hq
        have cF : wq.cell? ⟨F, 8, none⟩ = some (.int .i64 m) := by have := (SC.cn SCQ.out) 8 _ (cn_amt HCO.out.len); rw [HM.out, Nat.zero_add] at this; exact this
        go_wp2
        go_roundw
        case rel =>
          obtain ⟨PQ, k1, _⟩ := SCQ.out
          exact ⟨i + 1, PQ, HLT.out, congrArg _ IW.out, congrArg _ WS.out, k1⟩
        case measure => exact meas_up IW.out HLT.out
      · obtain ⟨j, hj⟩ : ∃ j, i = j + 1 := ⟨i - 1, by omega⟩
        have ip : (0 : Int) < (i : Int) := by omega
        have im : IntKind.i64.wrap ((i : Int) - 1) = (j : Int) := by rw [IntKind.wrap_i64]; have := PL.out.1; omega
        have im2 : wrap64 ((i : Int) - 1) = (j : Int) := by have := PL.out.1; unfold wrap64; omega
        have j0 : (0 : Int) ≤ (j : Int) := by omega
        have j1 : (j : Int) < (ps.length : Int) := by omega
        have j2 : j < ps.length := by omega
        have HJL := Lib.hid j2
        have HQP0 : lessP (ps.getD j []) p = true := by rw [← HPE.out, hj]; exact pt_lt ORD.out (by omega)
        obtain ⟨q, hq⟩ : ∃ q, ps.getD j [] = q := ⟨_, rfl⟩
        rw [hq] at HQP0
        have HQP := Lib.hid HQP0
        have HQE := Lib.hid hq
        have HQO : Hid (okP q) := Lib.hid (by obtain ⟨_, _, h, _⟩ := pt_there OK.out ORD.out j2; rwa [hq] at h)
        clear hi0 hj HQP0 hq
        refine wp_region_class (C := fun W => SC N w W S L (some ⟨g, 0, none⟩) ps F c) (by kernel_rfl) (by kernel_rfl) (SCB.out.grow (Below.refl _ wb).drew) ?_
        refine wpQuiet_step (fun K hK => ?_)
        refine quiet_val (by rfl) (v := ?_) ?_ (hK _ ?_)
        rotate_left
        · (intro w hSw; go_simp; try with_reducible rfl)
        clear hK K
        simp only [Act.put, List.setIfInBounds_toArray, List.set_cons_zero, List.set_cons_succ]
        refine wpQuiet_step (fun K hK => ?_)
        refine quiet_val (by rfl) (v := ?_) ?_ (hK _ ?_)
        rotate_left
        · (intro w hSw; go_simp; try with_reducible rfl)
        clear hK K
        simp only [Act.put, List.setIfInBounds_toArray, List.set_cons_zero, List.set_cons_succ]
        refine wpQuiet_step (fun K hK => ?_)
        refine quiet_val (by rfl) (v := ?_) ?_ (hK _ ?_)
        rotate_left
        · (intro w hSw; go_simp; try with_reducible rfl)
        clear hK K
        simp only [Act.put, List.setIfInBounds_toArray, List.set_cons_zero, List.set_cons_succ]
        refine wpQuiet_step (fun K hK => ?_)
        refine quiet_val (by rfl) (v := ?_) ?_ (hK _ ?_)
        rotate_left
        · (intro w hSw; go_simp; try with_reducible rfl)
        clear hK K
        simp only [Act.put, List.setIfInBounds_toArray, List.set_cons_zero, List.set_cons_succ]
        refine wpQuiet_step (fun K hK => ?_)
        refine quiet_val (by rfl) (v := ?_) ?_ (hK _ ?_)
        rotate_left
        · (intro w hSw; go_simp; try with_reducible rfl)
        clear hK K
        simp only [Act.put, List.setIfInBounds_toArray, List.set_cons_zero, List.set_cons_succ]
        refine wpQuiet_step (fun K hK => ?_)
        refine quiet_val (by rfl) (v := ?_) ?_ (hK _ ?_)
        rotate_left
        · (intro w hSw; go_simp; try with_reducible rfl)
        clear hK K
        simp only [Act.put, List.setIfInBounds_toArray, List.set_cons_zero, List.set_cons_succ]
        refine wpQuiet_step (fun K hK => ?_)
        refine quiet_val (by rfl) (v := ?_) ?_ (hK _ ?_)
        rotate_left
        · (intro w hSw; go_simp; try with_reducible rfl)
        clear hK K
        simp only [Act.put, List.setIfInBounds_toArray, List.set_cons_zero, List.set_cons_succ]
        refine wpQuiet_step (fun K hK => ?_)
        refine quiet_load (by rfl) 38 (.tmp 52) rfl g (i * 9) rfl (ptV p) _ (fun w h => by have := SC.pt h HLT.out; rw [HPE.out] at this; exact this) Try.underlying38 rfl (szP HPO.out) (hK _ ?_)
        clear hK K
        simp only [Act.put, List.setIfInBounds_toArray, List.set_cons_zero, List.set_cons_succ]
        refine wpQuiet_step (fun K hK => ?_)
        refine quiet_load (by rfl) 47 (.tmp 8) rfl F (0) rfl (cnV c) _ (fun w h => SC.cn h) Try.underlying47 rfl (szC HCO.out.len) (hK _ ?_)
        clear hK K
        simp only [Act.put, List.setIfInBounds_toArray, List.set_cons_zero, List.set_cons_succ]
        refine wpQuiet_step (fun K hK => ?_)
        refine quiet_call (by rfl) 11 #[.pointer (some ⟨S, 0, none⟩), .agg (ptV p).toArray, .agg (cnV c).toArray] ?_ (fun w hw => scAdd hw HPO.out HCO.out HLL.out HNE.out) (hK _ ?_)
        · (intro w hSw; go_simp; try with_reducible rfl)
        clear hK K
        simp only [Act.put, List.setIfInBounds_toArray, List.set_cons_zero, List.set_cons_succ]
        refine wpQuiet_step (fun K hK => ?_)
        refine quiet_val (by rfl) (v := ?_) ?_ (hK _ ?_)
        rotate_left
        · (intro w hSw; go_simp; try with_reducible rfl)
        clear hK K
        simp only [Act.put, List.setIfInBounds_toArray, List.set_cons_zero, List.set_cons_succ]
        refine wpQuiet_step (fun K hK => ?_)
        refine quiet_val (by rfl) (v := ?_) ?_ (hK _ ?_)
        rotate_left
        · (intro w hSw; go_simp; try with_reducible rfl)
        clear hK K
        simp only [Act.put, List.setIfInBounds_toArray, List.set_cons_zero, List.set_cons_succ]
        refine wpQuiet_step (fun K hK => ?_)
        refine quiet_val (by rfl) (v := ?_) ?_ (hK _ ?_)
        rotate_left
        · (intro w hSw; go_simp; try with_reducible rfl)
        clear hK K
        simp only [Act.put, List.setIfInBounds_toArray, List.set_cons_zero, List.set_cons_succ]
        refine wpQuiet_step (fun K hK => ?_)
        refine quiet_val (by rfl) (v := .bool true) (fun w hSw => ?_) (hK _ ?_)
        · first | (go_simp; done) | (go_simp; simp; omega) | (go_simp; omega)
        clear hK K
        simp only [Act.put, List.setIfInBounds_toArray, List.set_cons_zero, List.set_cons_succ]
        refine wpQuiet_step (fun K hK => ?_)
        refine quiet_val (by rfl) (v := ?_) ?_ (hK _ ?_)
        rotate_left
        · (intro w hSw; go_simp; try with_reducible rfl)
        clear hK K
        simp only [Act.put, List.setIfInBounds_toArray, List.set_cons_zero, List.set_cons_succ]
        refine wpQuiet_step (fun K hK => ?_)
        refine quiet_val (by rfl) (v := ?_) ?_ (hK _ ?_)
        rotate_left
        · (intro w hSw; go_simp; try with_reducible rfl)
        clear hK K
        simp only [Act.put, List.setIfInBounds_toArray, List.set_cons_zero, List.set_cons_succ]
        refine wpQuiet_step (fun K hK => ?_)
        refine quiet_val (by rfl) (v := ?_) ?_ (hK _ ?_)
        rotate_left
        · (intro w hSw; go_simp; try with_reducible rfl)
        clear hK K
        simp only [Act.put, List.setIfInBounds_toArray, List.set_cons_zero, List.set_cons_succ]
        refine wpQuiet_step (fun K hK => ?_)
        refine quiet_val (by rfl) (v := ?_) ?_ (hK _ ?_)
        rotate_left
        · (intro w hSw; go_simp; try with_reducible rfl)
        clear hK K
        simp only [Act.put, List.setIfInBounds_toArray, List.set_cons_zero, List.set_cons_succ]
        refine wpQuiet_step (fun K hK => ?_)
        refine quiet_val (by rfl) (v := ?_) ?_ (hK _ ?_)
        rotate_left
        · (intro w hSw; go_simp; try with_reducible rfl)
        clear hK K
        simp only [Act.put, List.setIfInBounds_toArray, List.set_cons_zero, List.set_cons_succ]
        refine wpQuiet_step (fun K hK => ?_)
        refine quiet_load (by rfl) 38 (.tmp 64) rfl g (j * 9) rfl (ptV q) _ (fun w h => by have := SC.pt h HJL.out; rw [HQE.out] at this; exact this) Try.underlying38 rfl (szP HQO.out) (hK _ ?_)
        clear hK K
        simp only [Act.put, List.setIfInBounds_toArray, List.set_cons_zero, List.set_cons_succ]
        refine wpQuiet_step (fun K hK => ?_)
        refine quiet_val (by rfl) (v := ?_) ?_ (hK _ ?_)
        rotate_left
        · (intro w hSw; go_simp; try with_reducible rfl)
        clear hK K
        simp only [Act.put, List.setIfInBounds_toArray, List.set_cons_zero, List.set_cons_succ]
        refine wpQuiet_step (fun K hK => ?_)
        refine quiet_val (by rfl) (v := ?_) ?_ (hK _ ?_)
        rotate_left
        · (intro w hSw; go_simp; try with_reducible rfl)
        clear hK K
        simp only [Act.put, List.setIfInBounds_toArray, List.set_cons_zero, List.set_cons_succ]
        refine wpQuiet_step (fun K hK => ?_)
        refine quiet_val (by rfl) (v := ?_) ?_ (hK _ ?_)
        rotate_left
        · (intro w hSw; go_simp; try with_reducible rfl)
        clear hK K
        simp only [Act.put, List.setIfInBounds_toArray, List.set_cons_zero, List.set_cons_succ]
        refine wpQuiet_step (fun K hK => ?_)
        refine quiet_load (by rfl) 38 (.tmp 68) rfl g (i * 9) rfl (ptV p) _ (fun w h => by have := SC.pt h HLT.out; rw [HPE.out] at this; exact this) Try.underlying38 rfl (szP HPO.out) (hK _ ?_)
        clear hK K
        simp only [Act.put, List.setIfInBounds_toArray, List.set_cons_zero, List.set_cons_succ]
        refine wpQuiet_step (fun K hK => ?_)
        refine quiet_call (by rfl) 22 #[.agg (ptV q).toArray, .agg (ptV p).toArray] ?_ (fun w hw => (dLessP q p w HQO.out HPO.out).mono fun e w' h => ⟨by rw [h.1, HQP.out], hw.grow h.2⟩) (hK _ ?_)
        · (intro w hSw; go_simp; try with_reducible rfl)
        clear hK K
        simp only [Act.put, List.setIfInBounds_toArray, List.set_cons_zero, List.set_cons_succ]
        refine wpQuiet_step (fun K hK => ?_)
        refine quiet_val (by rfl) (v := ?_) ?_ (hK _ ?_)
        rotate_left
        · (intro w hSw; go_simp; try with_reducible rfl)
        clear hK K
        simp only [Act.put, List.setIfInBounds_toArray, List.set_cons_zero, List.set_cons_succ]
        refine wpQuiet_step (fun K hK => ?_)
        refine quiet_val (by rfl) (v := ?_) ?_ (hK _ ?_)
        rotate_left
        · (intro w hSw; go_simp; try with_reducible rfl)
        clear hK K
        simp only [Act.put, List.setIfInBounds_toArray, List.set_cons_zero, List.set_cons_succ]
        refine wpQuiet_step (fun K hK => ?_)
        refine quiet_val (by rfl) (v := ?_) ?_ (hK _ ?_)
        rotate_left
        · (intro w hSw; go_simp; try with_reducible rfl)
        clear hK K
        simp only [Act.put, List.setIfInBounds_toArray, List.set_cons_zero, List.set_cons_succ]
        refine wpQuiet_nil ?_
        intro wq hq
        have SCQ := Lib.hid hq
        clear hq
        have cF : wq.cell? ⟨F, 8, none⟩ = some (.int .i64 m) := by have := (SC.cn SCQ.out) 8 _ (cn_amt HCO.out.len); rw [HM.out, Nat.zero_add] at this; exact this
        go_wp2
        go_roundw
        case rel =>
          obtain ⟨PQ, k1, _⟩ := SCQ.out
          exact ⟨i + 1, PQ, HLT.out, congrArg _ IW.out, congrArg _ WS.out, k1⟩
        case measure => exact meas_up IW.out HLT.out
    · have hii : i = ps.length := by omega
      have i1 : ¬ (i : Int) < (ps.length : Int) := by omega
      have hs : sF (setF L) (ps.take i) = setT L := by rw [hii, List.take_length]; exact (sF_all OK.out ORD.out).1
      rw [hs]
      have HST := Lib.hid hs
      have SW4 := Lib.hid hsw
      have TL := Lib.hid (PL.out.2.1)
      clear hs hsw hlt hi
      go_upto_region 17 with (fail)
      go_upto_region 19 with (first
        | (go_at_call 23; refine (uTot S L P1 _ SW4.out.a).mono ?_; rintro e w5 ⟨rfl, rfl⟩)
        | (go_at_call 24; refine (uLen S L P1 _ SW4.out.a).mono ?_; rintro e w5 ⟨rfl, rfl⟩; rw [← TL.out])
        | fail)
      have TS0 : Hid (setT L = sF (setF L) (ps.drop 0)) := Lib.hid (by rw [List.drop_zero]; exact (sF_all OK.out ORD.out).1.symm)
      go_wp2
      go_loopw [10, 6] (fun iv sv wx => ∃ (k : Nat) (L' : List Stp) (P2 : Nat → Prop), k ≤ ps.length ∧ iv = .int .i64 k ∧ sv = .int .i64 (sF (setF L) (ps.drop k)) ∧ SW N w wx S L' P2 A ps ∧ Left L L' ps k) (fun iv _ _ => ps.length - (intOf iv).toNat)
      case atStart => exact ⟨0, L, P1, Nat.zero_le _, rfl, congrArg _ TS0.out, SW4.out, left_start OK.out ORD.out⟩
      case round =>
        clear SW4 i1 hii
        obtain ⟨k, L', P2, hk, rfl, rfl, hsw, hleft⟩ := hrel
        rename World => wx
        by_cases hlt : k < ps.length
        · obtain ⟨c, hc, hpo, hco⟩ := pt_there OK.out ORD.out hlt
          have hcl := (left_at hleft ORD.out hlt).trans hc
          obtain ⟨g, rfl, hg, hn, hr⟩ := hsw.pt hlt
          have WS : Hid (wrap64 (sF (setF L) (ps.drop k) - amt c) = sF (setF L) (ps.drop (k + 1))) := Lib.hid (by
            rw [(sF_snoc hlt hc).2]
            have h1 := sF_bnd OK.out ORD.out k
            have h2 := sF_bnd OK.out ORD.out (k + 1)
            rw [(sF_snoc hlt hc).2] at h1
            unfold maxM at h1 h2
            unfold wrap64; omega)
          have LS : Hid (Left L (⟨ps.getD k [], c, true⟩ :: L') ps (k + 1)) := Lib.hid (left_step hleft hlt hc)
          have TS : Hid (setT (⟨ps.getD k [], c, true⟩ :: L') = sF (setF L) (ps.drop (k + 1))) := Lib.hid LS.out.2.1
          have NS : Hid (setF (⟨ps.getD k [], c, true⟩ :: L') (ps.getD k []) = none) := Lib.hid (by rw [setF_del rfl]; exact updC_same _ _ _)
          have LL : Hid (L'.length < 1000 ∧ (⟨ps.getD k [], c, true⟩ :: L').length < 1000) := Lib.hid (by have := hleft.2.2; have := PL.out; simp only [List.length_cons]; omega)
          have CS := uSpend S L' P2 (ps.getD k []) wx hsw.a hpo LL.out.1
          rw [hcl, spend_yes hcl] at CS
          have CS : Hid (Calls Try.prog 14 #[.pointer (some ⟨S, 0, none⟩), .agg (ptV (ps.getD k [])).toArray] wx fun e w' => e = .returned (.tuple #[.agg (cnV c).toArray, .bool true]) ∧ ∃ P', SetIs w' S (⟨ps.getD k [], c, true⟩ :: L') P' ∧ (∀ q, P' q → P2 q ∨ wx.heap.size ≤ q) ∧ Fr wx w' P2) := Lib.hid CS
          obtain ⟨M, hM⟩ : ∃ M, (⟨ps.getD k [], c, true⟩ :: L' : List Stp) = M := ⟨_, rfl⟩
          rw [hM] at LS TS NS LL CS
          have GP : Hid (∀ W, SC N w W S M (some ⟨g, 0, none⟩) ps 0 c → W.rangeAt g (k * 9) (ptV (ps.getD k []))) := Lib.hid fun W h => SC.pt h hlt
          obtain ⟨p, hp⟩ : ∃ p, ps.getD k [] = p := ⟨_, rfl⟩
          obtain ⟨m, hm⟩ : ∃ m, amt c = m := ⟨_, rfl⟩
          rw [hp] at hpo hr NS CS
          rw [hm] at WS
          have HPE := Lib.hid hp
          have HPO := Lib.hid hpo
          have HCO := Lib.hid hco
          have HM := Lib.hid hm
          have HLT := Lib.hid hlt
          have IW : Hid (wrap64 ((k : Int) + 1) = ((k + 1 : Nat) : Int)) := Lib.hid (by have := PL.out.1; unfold wrap64; omega)
          have i0 : (0 : Int) ≤ (k : Int) := by omega
          have i1 : (k : Int) < (ps.length : Int) := by omega
          have i2 : k < ps.length := hlt
          have SW1 := Lib.hid hsw
          have RG := Lib.hid hr
          clear GP hk hlt hc hcl hpo hco hp hm hsw hr hn hg hM hleft
          have hz : ∀ w, (zeroValue 47).run Try.prog w = .ok (.agg (cnV cn0).toArray) w := z47
          go_upto_region 23 with (first
            | (refine wpList_load_midG (by rfl) 38 (.tmp 100) rfl g (k * 9) rfl (ptV p) _ RG.out Try.underlying38 rfl (szP HPO.out) ?_)
            | (go_at_call 14; refine CS.out.mono ?_; rintro e wg ⟨rfl, P3, s1, s2, s3⟩; have SWG := Lib.hid (SW1.out.turn s1 s2 s3); clear s1 s2 s3)
            | (refine wpList_store_rowTo rfl 47 (.tmp 11) (.tmp 103) rfl rfl _ (cnV c).toArray rfl rfl 47 _ (heap_alloc_last wg _) (szCA HCO.out.len) (szCC cn0_len HCO.out.len) (all_oneCell_toArray (cn_one c)) ?_)
            | fail)
          have SCB : Hid (SC N w ((wg.alloc (Obj.cells (cnV cn0).toArray 47)).setRow wg.heap.size (cnV c).toArray) S M (some ⟨g, 0, none⟩) ps wg.heap.size c) := Lib.hid
            ⟨P3, SWG.out.grow (below_setRow ((Below.refl _ wg).alloc (Nat.le_refl _) _) (Nat.le_refl _) _), setRow_heap _ _ _ _ _ _ (heap_alloc_last wg _), fun hp => by have := SWG.out.a.plt _ hp; omega⟩
          obtain ⟨F, hF⟩ : ∃ F, wg.heap.size = F := ⟨_, rfl⟩
          rw [hF] at SCB ⊢
          generalize (wg.alloc (Obj.cells (cnV cn0).toArray 47)).setRow F (cnV c).toArray = wb at SCB ⊢
          clear hF SWG SW1 RG CS
          have RGb : Hid (wb.rangeAt g (k * 9) (ptV p)) := Lib.hid (by rw [← HPE.out]; exact SC.pt SCB.out HLT.out)
          go_upto_region 24 with (first
            | (refine wpList_load_midG (by rfl) 38 (.tmp 109) rfl g (k * 9) rfl (ptV p) _ RGb.out Try.underlying38 rfl (szP HPO.out) ?_)
            | (go_at_call 14; refine (scSpend0 SCB.out HPO.out LL.out.2 NS.out).mono ?_; rintro e wg2 ⟨rfl, s1⟩; have SCC := Lib.hid s1; clear s1)
            | (refine wpList_store_rowTo rfl 47 (.tmp 13) (.tmp 112) rfl rfl _ (cnV cn0).toArray rfl rfl 47 _ (heap_alloc_last wg2 _) (szCA cn0_len) (szCC cn0_len cn0_len) (all_oneCell_toArray (cn_one cn0)) ?_)
            | fail)
          have SCD : Hid (SC N w ((wg2.alloc (Obj.cells (cnV cn0).toArray 47)).setRow wg2.heap.size (cnV cn0).toArray) S M (some ⟨g, 0, none⟩) ps F c) := Lib.hid (SCC.out.grow (below_setRow ((Below.refl _ wg2).alloc (Nat.le_refl _) _) (Nat.le_refl _) _))
          generalize (wg2.alloc (Obj.cells (cnV cn0).toArray 47)).setRow wg2.heap.size (cnV cn0).toArray = wd at SCD ⊢
          generalize wg2.heap.size = F2 at *
          clear SCB SCC RGb
          have RGd : Hid (wd.rangeAt g (k * 9) (ptV p)) := Lib.hid (by rw [← HPE.out]; exact SC.pt SCD.out HLT.out)
          go_upto_region 25 with (first
            | (refine wpList_load_midG (by rfl) 38 (.tmp 118) rfl g (k * 9) rfl (ptV p) _ RGd.out Try.underlying38 rfl (szP HPO.out) ?_)
            | (go_at_call 21; refine (scGet0 SCD.out HPO.out NS.out).mono ?_; rintro e wg3 ⟨rfl, s1⟩; have SCE := Lib.hid s1; clear s1)
            | (refine wpList_store_rowTo rfl 47 (.tmp 15) (.tmp 121) rfl rfl _ (cnV cn0).toArray rfl rfl 47 _ (heap_alloc_last wg3 _) (szCA cn0_len) (szCC cn0_len cn0_len) (all_oneCell_toArray (cn_one cn0)) ?_)
            | fail)
          have SCF : Hid (SC N w ((wg3.alloc (Obj.cells (cnV cn0).toArray 47)).setRow wg3.heap.size (cnV cn0).toArray) S M (some ⟨g, 0, none⟩) ps F c) := Lib.hid (SCE.out.grow (below_setRow ((Below.refl _ wg3).alloc (Nat.le_refl _) _) (Nat.le_refl _) _))
          generalize (wg3.alloc (Obj.cells (cnV cn0).toArray 47)).setRow wg3.heap.size (cnV cn0).toArray = wf at SCF ⊢
          generalize wg3.heap.size = F3 at *
          clear SCD SCE RGd
          have cF : wf.cell? ⟨F, 8, none⟩ = some (.int .i64 m) := by have := (SC.cn SCF.out) 8 _ (cn_amt HCO.out.len); rw [HM.out, Nat.zero_add] at this; exact this
          have CT : Hid (Calls Try.prog 23 #[.pointer (some ⟨S, 0, none⟩)] wf fun e w' => e = .returned (.int .i64 (sF (setF L) (ps.drop (k + 1)))) ∧ wf = w') := Lib.hid (by rw [← TS.out]; exact scTot SCF.out)
          go_upto_region 26 with (fail)
          have ws := WS.out
          try rw [ws]
          clear cF ws
          generalize hsk : sF (setF L) (ps.drop (k + 1)) = sk at *
          go_wp2_with (first
            | (go_at_call 23; refine CT.out.mono ?_; rintro e w9 ⟨rfl, rfl⟩)
            | fail)
          go_roundw
          case rel =>
            obtain ⟨P9, k1, _⟩ := SCF.out
            exact ⟨k + 1, M, P9, HLT.out, congrArg _ IW.out, congrArg _ (by first | rfl | exact hsk.symm | exact WS.out.trans hsk), k1, LS.out⟩
          case measure => exact meas_up IW.out HLT.out
        · have hkk : k = ps.length := by omega
          have i1 : ¬ (k : Int) < (ps.length : Int) := by omega
          have OK2 : okS L' := Set2.ok hsw.a
          have LE := left_end OK2 (hkk ▸ hleft) ORD.out OK.out
          have SWZ := Lib.hid hsw
          have CN : Hid (∀ W, SW N w W S L' P2 A ps → Calls Try.prog 24 #[.pointer (some ⟨S, 0, none⟩)] W fun e w' => e = .returned (.int .i64 0) ∧ W = w') := Lib.hid fun W h => by
            have := uLen S L' P2 W h.a
            rw [LE.1] at this
            exact this
          have CT : Hid (∀ W, SW N w W S L' P2 A ps → Calls Try.prog 23 #[.pointer (some ⟨S, 0, none⟩)] W fun e w' => e = .returned (.int .i64 0) ∧ W = w') := Lib.hid fun W h => by
            have := uTot S L' P2 W h.a
            rw [LE.2] at this
            exact this
          clear LE OK2 hleft hsw hlt hk hkk
          go_wp2_with (first
            | (go_at_call 24; refine (CN.out _ SWZ.out).mono ?_; rintro e w5 ⟨rfl, rfl⟩)
            | (go_at_call 23; refine (CT.out _ SWZ.out).mono ?_; rintro e w5 ⟨rfl, rfl⟩)
            | fail)
          go_ret
          exact ⟨rfl, SWZ.out.bel⟩
end Go.Proofs.Ytdggnmlhgglccaa
