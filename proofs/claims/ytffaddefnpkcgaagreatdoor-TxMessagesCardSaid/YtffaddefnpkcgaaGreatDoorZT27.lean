/-
  All fields of a transaction.
-/
import Derived.Test.YtffaddefnpkcgaaGreatDoorZN
import Derived.Test.YtffaddefnpkcgaaGreatDoorZW
namespace Go.Proofs.YtffaddefnpkcgaaGreatDoor
open Go.RowKit
set_option maxRecDepth 100000
attribute [local irreducible] ua da ba kk sw S8.run rt hs comp splice outB sha msg zeros win bvals vals cel seg
attribute [local irreducible] Tape.st schP List.replicate inP sgnP
variable {T : Tape} {bs bs1 : List Int} {t : TxP}
theorem stT_1 (h : T.stN 1 bs t.kind = some (bs1, 1)) : T.stT bs t = (T.stN 4 bs1 t.height).bind fun a => (T.stL outP a.1 t.outs).bind fun q => some (q.1, { t with kind := 1, height := a.2, outs := q.2 }) := by
  unfold Tape.stT; rw [h]; rfl
theorem stT_2 (h : T.stN 1 bs t.kind = some (bs1, 2)) : T.stT bs t = (T.stL inP bs1 t.ins).bind fun a => (T.stL outP a.1 t.outs).bind fun q => (T.stL fwdP q.1 t.fwds).bind fun s => some (s.1, { t with kind := 2, ins := a.2, outs := q.2, fwds := s.2 }) := by
  unfold Tape.stT; rw [h]; rfl
theorem stT_3 (h : T.stN 1 bs t.kind = some (bs1, 3)) : T.stT bs t = (T.stPar bs1 t.par t.keys).bind fun a => some (a.1, { t with kind := 3, par := a.2.1, keys := a.2.2 }) := by
  unfold Tape.stT; rw [h]; rfl
theorem stT_4 (h : T.stN 1 bs t.kind = some (bs1, 4)) : T.stT bs t = (T.stCer bs1 t.cer t.couts t.csigs).bind fun a => some (a.1, { t with kind := 4, cer := a.2.1, couts := a.2.2.1, csigs := a.2.2.2 }) := by
  unfold Tape.stT; rw [h]; rfl
theorem stT_5 (h : T.stN 1 bs t.kind = some (bs1, 5)) : T.stT bs t = (T.st claP bs1 t.cla).bind fun a => some (a.1, { t with kind := 5, cla := a.2 }) := by
  unfold Tape.stT; rw [h]; rfl
theorem stT_0 {k : Int} (h : T.stN 1 bs t.kind = some (bs1, k)) (n1 : ¬ k = 1) (n2 : ¬ k = 2) (n3 : ¬ k = 3) (n4 : ¬ k = 4) (n5 : ¬ k = 5) : T.stT bs t = some (bs1, { t with kind := k }) := by
  unfold Tape.stT
  rw [h]
  simp only [Option.bind_some, if_neg n1, if_neg n2, if_neg n3, if_neg n4, if_neg n5]
theorem stT_no (h : T.stN 1 bs t.kind = none) : T.stT bs t = none := by
  unfold Tape.stT; rw [h]; rfl
theorem stPar_len {r : List Int} {ks : List (List Int)} {x : List Int × List Int × List (List Int)} (h : T.stPar bs r ks = some x) (hl : r.length = 3) : x.2.1.length = 3 := by
  unfold Tape.stPar at h
  obtain ⟨p, h1, h2⟩ := bind_some h
  obtain ⟨q, h3, h4⟩ := bind_some h2
  simp only [Option.some.injEq] at h4
  rw [← h4]
  have := T.st_len parP _ _ p (hl.trans parP_len.symm) h1
  rw [parP_len] at this
  exact this
theorem stCer_len {r : List Int} {os ss : List (List Int)} {x : List Int × List Int × List (List Int) × List (List Int)} (h : T.stCer bs r os ss = some x) (hl : r.length = 19) : x.2.1.length = 19 := by
  unfold Tape.stCer at h
  obtain ⟨p, h1, h2⟩ := bind_some h
  obtain ⟨q, h3, h4⟩ := bind_some h2
  obtain ⟨u, h5, h6⟩ := bind_some h4
  simp only [Option.some.injEq] at h6
  rw [← h6]
  have := T.st_len cerP _ _ p (hl.trans cerP_len.symm) h1
  rw [cerP_len] at this
  exact this
theorem stCla_len {r : List Int} {x : List Int × List Int} (h : T.st claP bs r = some x) (hl : r.length = 140) : x.2.length = 140 := by
  have := T.st_len claP _ _ x (hl.trans claP_len.symm) h
  rw [claP_len] at this
  exact this
def Tape.PostT (T : Tape) (w : World) (b : Nat) : Option (List Int × TxP) → Ending → World → Prop
  | some p, e, w' => e = .returned (.tuple #[]) ∧ T.I w' p.1 ∧ Ch T.Own T.ro w w' b 0 170 ∧ ∃ h, TAt T w' b p.2 h w.heap.size
  | none, e, w' => Short e ∧ T.J w'
structure NoL (t : TxP) : Prop where
  i : t.ins = []
  o : t.outs = []
  f : t.fwds = []
  k : t.keys = []
  co : t.couts = []
  cs : t.csigs = []
theorem TAt.lift {w : World} {b M : Nat} {h : TxH} (a : TAt T w b t h M) (hro : T.ro = true ∨ NoL t) (N : Nat) : TAt T w b t h N :=
  { a with i := a.i.lift (hro.imp_right fun x => x.i) N, o := a.o.lift (hro.imp_right fun x => x.o) N, f := a.f.lift (hro.imp_right fun x => x.f) N, k := a.k.lift (hro.imp_right fun x => x.k) N, co := a.co.lift (hro.imp_right fun x => x.co) N, cs := a.cs.lift (hro.imp_right fun x => x.cs) N }
set_option maxHeartbeats 8000000 in
theorem fFields (T : Tape) (w : World) (bs : List Int) (b : Nat) (t : TxP) (h : TxH) (hI : T.I w bs) (hb : b < w.heap.size) (hO : T.Own w b) (ht : TAt T w b t h 0) (hro : T.ro = true ∨ NoL t) (hs : T.stT bs t = none → T.sh = true) :
    Calls Tryz.prog 29 #[T.V, .pointer (some ⟨b, 0, none⟩)] w (T.PostT w b (T.stT bs t)) := by
  have A0 := Lib.hid (ht.lift hro w.heap.size)
  have HB := Lib.hid hb
  have HR := Lib.hid hro
  have c := ht.kind
  clear ht
  go_enter Tryz.func29, Tryz.ntmps29
  go_upto_region 1 with (fail)
  rename_i K hKK
  refine wp_region_held_drew (S := fun _ => True) (by kernel_rfl) trivial (fun _ => ?_)
  refine tk (i := 0) (v := ?_) rfl (Or.inl ⟨by rfl, ?_⟩) trivial ?_
  rotate_left
  · (intro w _; go_simp; try with_reducible rfl)
  simp only [Act.put, ly1, ly3, ly4, ly5, ly6]
  refine tk (i := 1) (v := ?_) rfl (Or.inl ⟨by rfl, ?_⟩) trivial ?_
  rotate_left
  · (intro w _; go_simp; try with_reducible rfl)
  simp only [Act.put, ly1, ly2, ly3, ly4, ly5, ly6]
  refine tk (i := 2) (v := ?_) rfl (Or.inl ⟨by rfl, ?_⟩) trivial ?_
  rotate_left
  · (intro w _; go_simp; try with_reducible rfl)
  simp only [Act.put, ly1, ly2, ly3, ly4, ly5, ly6]
  refine tk (i := 3) (v := ?_) rfl (Or.inl ⟨by rfl, ?_⟩) trivial ?_
  rotate_left
  · (intro w _; go_simp; try with_reducible rfl)
  simp only [Act.put, ly1, ly2, ly3, ly4, ly5, ly6]
  refine tk (i := 4) (v := ?_) rfl (Or.inl ⟨by rfl, ?_⟩) trivial ?_
  rotate_left
  · (intro w _; go_simp; try with_reducible rfl)
  simp only [Act.put, ly1, ly2, ly3, ly4, ly5, ly6]
  refine tk (i := 5) rfl (Or.inl ⟨by rfl, fun w _ => T.nilN (by rfl) (by rfl) w⟩) trivial ?_
  simp only [Act.put, ly1, ly2, ly3, ly4, ly5, ly6]
  refine tk (i := 6) (v := ?_) rfl (Or.inl ⟨by rfl, ?_⟩) trivial ?_
  rotate_left
  · (intro w _; go_simp; try with_reducible rfl)
  simp only [Act.put, ly1, ly2, ly3, ly4, ly5, ly6]
  refine wpAnyH_ready (rs := [7]) (by kernel_rfl) (by simp) ?_
  refine AllReadyH.cons rfl (fun Kq hKq => ?_) AllReadyH.nil
  refine step_enter (by rfl) (run_invN T (by rfl) (by rfl) (by rfl) (by rfl)) ((T.numD w bs b 0 t.kind 1 (by decide) (by decide) hI hb hO c (fun h => hs (stT_no h))).mono ?_)
  rintro e w1 (⟨⟨bs1, k1⟩, hp, rfl, hI', hC', hr'⟩ | ⟨hn, hse, hJ⟩)
  rotate_left
  · unfold Short at hse
    subst hse
    refine ⟨rfl, ?_⟩
    rw [stT_no hn]
    exact ⟨rfl, hJ⟩
  refine hKq.out _ _ trivial (fun _ => ?_)
  clear hKq Kq
  simp only [Act.put, ly1, ly2, ly3, ly4, ly5, ly6]
  refine wpAnyH_done (by kernel_rfl) ?_ _
  dsimp only at hI' hr'
  have A1 := Lib.hid (A0.out.kindC hb hC' hr')
  have I1 := Lib.hid hI'
  have C1 := Lib.hid (hC'.wide (o := 0) (k := 170) (by omega) (by omega))
  have O1 := Lib.hid (hC'.own b hb hO)
  have B1 := Lib.hid (Nat.lt_of_lt_of_le hb hC'.size)
  have P1 := Lib.hid hp
  have c1 := hr'
  clear hI hb hO hro c hI' hC' hr' hp A0
  show K _ _
  refine hKK _ _ ?_
  clear hKK K
  by_cases n1 : k1 = 1
  · subst n1
    have ST := Lib.hid (stT_1 P1.out)
    have HS := Lib.hid hs
    clear hs P1
    go_upto_region 4 with (fail)
    rename_i K hKK
    have c := A1.out.height
    refine wp_region_held_drew (S := fun _ => True) (by kernel_rfl) trivial (fun _ => ?_)
    refine tk (i := 0) (v := ?_) rfl (Or.inl ⟨by rfl, ?_⟩) trivial ?_
    rotate_left
    · (intro w _; go_simp; try with_reducible rfl)
    simp only [Act.put, ly1, ly3, ly4, ly5, ly6]
    refine tk (i := 1) (v := ?_) rfl (Or.inl ⟨by rfl, ?_⟩) trivial ?_
    rotate_left
    · (intro w _; go_simp; try with_reducible rfl)
    simp only [Act.put, ly1, ly2, ly3, ly4, ly5, ly6]
    refine tk (i := 2) (v := ?_) rfl (Or.inl ⟨by rfl, ?_⟩) trivial ?_
    rotate_left
    · (intro w _; go_simp; try with_reducible rfl)
    simp only [Act.put, ly1, ly2, ly3, ly4, ly5, ly6]
    refine tk (i := 3) (v := ?_) rfl (Or.inl ⟨by rfl, ?_⟩) trivial ?_
    rotate_left
    · (intro w _; go_simp; try with_reducible rfl)
    simp only [Act.put, ly1, ly2, ly3, ly4, ly5, ly6]
    refine tk (i := 4) (v := ?_) rfl (Or.inl ⟨by rfl, ?_⟩) trivial ?_
    rotate_left
    · (intro w _; go_simp; try with_reducible rfl)
    simp only [Act.put, ly1, ly2, ly3, ly4, ly5, ly6]
    refine tk (i := 5) rfl (Or.inl ⟨by rfl, fun w _ => T.nilN (by rfl) (by rfl) w⟩) trivial ?_
    simp only [Act.put, ly1, ly2, ly3, ly4, ly5, ly6]
    refine tk (i := 6) (v := ?_) rfl (Or.inl ⟨by rfl, ?_⟩) trivial ?_
    rotate_left
    · (intro w _; go_simp; try with_reducible rfl)
    simp only [Act.put, ly1, ly2, ly3, ly4, ly5, ly6]
    refine wpAnyH_ready (rs := [7]) (by kernel_rfl) (by simp) ?_
    refine AllReadyH.cons rfl (fun Kq hKq => ?_) AllReadyH.nil
    refine step_enter (by rfl) (run_invN T (by rfl) (by rfl) (by rfl) (by rfl)) ((T.numD w1 bs1 b 1 t.height 4 (by decide) (by decide) I1.out B1.out O1.out c (fun h => HS.out (by rw [ST.out, h]; rfl))).mono ?_)
    rintro e w2 (⟨q2, hp, rfl, hI', hC', hr'⟩ | ⟨hn, hse, hJ⟩)
    rotate_left
    · unfold Short at hse
      subst hse
      refine ⟨rfl, ?_⟩
      rw [ST.out, hn]
      exact ⟨rfl, hJ⟩
    refine hKq.out _ _ trivial (fun _ => ?_)
    clear hKq Kq
    simp only [Act.put, ly1, ly2, ly3, ly4, ly5, ly6]
    refine wpAnyH_done (by kernel_rfl) ?_ _
    have A2 := Lib.hid (A1.out.heightC HB.out hC' hr')
    have I2 := Lib.hid hI'
    have C2 := Lib.hid (C1.out.trans hC' (o := 0) (k := 170) (by omega) (by omega) (by omega) (by omega))
    have O2 := Lib.hid (hC'.own b B1.out O1.out)
    have B2 := Lib.hid (Nat.lt_of_lt_of_le B1.out hC'.size)
    rw [hp] at ST
    simp only [Option.bind_some] at ST
    clear hI' hC' hr' hp c A1 I1 C1 O1 B1 c1
    show K _ _
    refine hKK _ _ ?_
    clear hKK K
    go_wp2_with fail
    refine (lOut T w2 q2.1 b 3 _ _ t.outs I2.out B2.out O2.out (A2.out.o.low (Nat.zero_le _)) (HR.out.imp_right fun x => x.o) (fun h => HS.out (by rw [ST.out, h]; rfl))).mono ?_
    intro e w3 hpost
    cases hq : T.stL outP q2.1 t.outs with
    | none =>
      rw [hq] at hpost
      obtain ⟨hse, hJ⟩ := hpost
      unfold Short at hse
      subst hse
      refine ⟨rfl, ?_⟩
      rw [ST.out, hq]
      exact ⟨rfl, hJ⟩
    | some q3 =>
      rw [hq] at hpost
      obtain ⟨rfl, hI', hC', A', c', hL'⟩ := hpost
      have A3 := Lib.hid (A2.out.outsC HB.out hC' (hL'.low (M := w2.heap.size) C2.out.size))
      have I3 := Lib.hid hI'
      have C3 := Lib.hid (C2.out.trans hC' (o := 0) (k := 170) (by omega) (by omega) (by omega) (by omega))
      have O3 := Lib.hid (hC'.own b B2.out O2.out)
      have B3 := Lib.hid (Nat.lt_of_lt_of_le B2.out hC'.size)
      rw [hq] at ST
      simp only [Option.bind_some] at ST
      clear hI' hC' hq A2 I2 C2 O2 B2
      go_wp2
      go_end0
      rw [ST.out]
      exact ⟨rfl, I3.out, C3.out, _, A3.out⟩
  by_cases n2 : k1 = 2
  · subst n2
    have ST := Lib.hid (stT_2 P1.out)
    have HS := Lib.hid hs
    clear hs P1
    go_wp2_with fail
    refine (lIn T w1 bs1 b 2 _ _ t.ins I1.out B1.out O1.out (A1.out.i.low (Nat.zero_le _)) (HR.out.imp_right fun x => x.i) (fun h => HS.out (by rw [ST.out, h]; rfl))).mono ?_
    intro e w2 hpost
    cases hq : T.stL inP bs1 t.ins with
    | none =>
      rw [hq] at hpost
      obtain ⟨hse, hJ⟩ := hpost
      unfold Short at hse
      subst hse
      refine ⟨rfl, ?_⟩
      rw [ST.out, hq]
      exact ⟨rfl, hJ⟩
    | some q2 =>
      rw [hq] at hpost
      obtain ⟨rfl, hI', hC', A', c', hL'⟩ := hpost
      have A2 := Lib.hid (A1.out.insC HB.out hC' (hL'.low (M := w1.heap.size) C1.out.size))
      have I2 := Lib.hid hI'
      have C2 := Lib.hid (C1.out.trans hC' (o := 0) (k := 170) (by omega) (by omega) (by omega) (by omega))
      have O2 := Lib.hid (hC'.own b B1.out O1.out)
      have B2 := Lib.hid (Nat.lt_of_lt_of_le B1.out hC'.size)
      rw [hq] at ST
      simp only [Option.bind_some] at ST
      clear hI' hC' hq A1 I1 C1 O1 B1
      go_wp2_with fail
      refine (lOut T w2 q2.1 b 3 _ _ t.outs I2.out B2.out O2.out (A2.out.o.low (Nat.zero_le _)) (HR.out.imp_right fun x => x.o) (fun h => HS.out (by rw [ST.out, h]; rfl))).mono ?_
      intro e w3 hpost
      cases hq : T.stL outP q2.1 t.outs with
      | none =>
        rw [hq] at hpost
        obtain ⟨hse, hJ⟩ := hpost
        unfold Short at hse
        subst hse
        refine ⟨rfl, ?_⟩
        rw [ST.out, hq]
        exact ⟨rfl, hJ⟩
      | some q3 =>
        rw [hq] at hpost
        obtain ⟨rfl, hI', hC', A', c', hL'⟩ := hpost
        have A3 := Lib.hid (A2.out.outsC HB.out hC' (hL'.low (M := w2.heap.size) C2.out.size))
        have I3 := Lib.hid hI'
        have C3 := Lib.hid (C2.out.trans hC' (o := 0) (k := 170) (by omega) (by omega) (by omega) (by omega))
        have O3 := Lib.hid (hC'.own b B2.out O2.out)
        have B3 := Lib.hid (Nat.lt_of_lt_of_le B2.out hC'.size)
        rw [hq] at ST
        simp only [Option.bind_some] at ST
        clear hI' hC' hq A2 I2 C2 O2 B2
        go_wp2_with fail
        refine (lFwd T w3 q3.1 b 4 _ _ t.fwds I3.out B3.out O3.out (A3.out.f.low (Nat.zero_le _)) (HR.out.imp_right fun x => x.f) (fun h => HS.out (by rw [ST.out, h]; rfl))).mono ?_
        intro e w4 hpost
        cases hq : T.stL fwdP q3.1 t.fwds with
        | none =>
          rw [hq] at hpost
          obtain ⟨hse, hJ⟩ := hpost
          unfold Short at hse
          subst hse
          refine ⟨rfl, ?_⟩
          rw [ST.out, hq]
          exact ⟨rfl, hJ⟩
        | some q4 =>
          rw [hq] at hpost
          obtain ⟨rfl, hI', hC', A', c', hL'⟩ := hpost
          have A4 := Lib.hid (A3.out.fwdsC HB.out hC' (hL'.low (M := w3.heap.size) C3.out.size))
          have I4 := Lib.hid hI'
          have C4 := Lib.hid (C3.out.trans hC' (o := 0) (k := 170) (by omega) (by omega) (by omega) (by omega))
          have O4 := Lib.hid (hC'.own b B3.out O3.out)
          have B4 := Lib.hid (Nat.lt_of_lt_of_le B3.out hC'.size)
          rw [hq] at ST
          simp only [Option.bind_some] at ST
          clear hI' hC' hq A3 I3 C3 O3 B3
          go_wp2
          go_end0
          rw [ST.out]
          exact ⟨rfl, I4.out, C4.out, _, A4.out⟩
  by_cases n3 : k1 = 3
  · subst n3
    have ST := Lib.hid (stT_3 P1.out)
    have HS := Lib.hid hs
    clear hs P1
    go_wp2_with fail
    refine (fPar T w1 bs1 b 5 t.par _ _ t.keys I1.out B1.out O1.out (A1.out.lpar.trans parP_len.symm) A1.out.par (A1.out.k.low (Nat.zero_le _)) (HR.out.imp_right fun x => x.k) (fun h => HS.out (by rw [ST.out, h]; rfl))).mono ?_
    intro e w2 hpost
    cases hq : T.stPar bs1 t.par t.keys with
    | none =>
      rw [hq] at hpost
      obtain ⟨hse, hJ⟩ := hpost
      unfold Short at hse
      subst hse
      refine ⟨rfl, ?_⟩
      rw [ST.out, hq]
      exact ⟨rfl, hJ⟩
    | some q2 =>
      rw [hq] at hpost
      obtain ⟨rfl, hI', hC', hr', A', c', hL'⟩ := hpost
      have LQ := stPar_len hq (A1.out.lpar)
      have A2 := Lib.hid (A1.out.parC HB.out hC' hr' LQ (hL'.low (M := w1.heap.size) C1.out.size))
      have I2 := Lib.hid hI'
      have C2 := Lib.hid (C1.out.trans hC' (o := 0) (k := 170) (by omega) (by omega) (by omega) (by omega))
      have O2 := Lib.hid (hC'.own b B1.out O1.out)
      have B2 := Lib.hid (Nat.lt_of_lt_of_le B1.out hC'.size)
      rw [hq] at ST
      simp only [Option.bind_some] at ST
      clear hI' hC' hq A1 I1 C1 O1 B1
      go_wp2
      go_end0
      rw [ST.out]
      exact ⟨rfl, I2.out, C2.out, _, A2.out⟩
  by_cases n4 : k1 = 4
  · subst n4
    have ST := Lib.hid (stT_4 P1.out)
    have HS := Lib.hid hs
    clear hs P1
    go_wp2_with fail
    refine (fCer T w1 bs1 b 9 t.cer _ _ _ _ t.couts t.csigs I1.out B1.out O1.out (A1.out.lcer.trans cerP_len.symm) A1.out.cer (A1.out.co.low (Nat.zero_le _)) (HR.out.imp_right fun x => x.co) (A1.out.cs.low (Nat.zero_le _)) (HR.out.imp_right fun x => x.cs) (fun h => HS.out (by rw [ST.out, h]; rfl))).mono ?_
    intro e w2 hpost
    cases hq : T.stCer bs1 t.cer t.couts t.csigs with
    | none =>
      rw [hq] at hpost
      obtain ⟨hse, hJ⟩ := hpost
      unfold Short at hse
      subst hse
      refine ⟨rfl, ?_⟩
      rw [ST.out, hq]
      exact ⟨rfl, hJ⟩
    | some q2 =>
      rw [hq] at hpost
      obtain ⟨rfl, hI', hC', hr', ⟨A', c', hL'⟩, A2, c2, hL2⟩ := hpost
      have LQ := stCer_len hq (A1.out.lcer)
      have A2 := Lib.hid (A1.out.cerC HB.out hC' hr' LQ (hL'.low (M := w1.heap.size) C1.out.size) (hL2.low (M := w1.heap.size) C1.out.size))
      have I2 := Lib.hid hI'
      have C2 := Lib.hid (C1.out.trans hC' (o := 0) (k := 170) (by omega) (by omega) (by omega) (by omega))
      have O2 := Lib.hid (hC'.own b B1.out O1.out)
      have B2 := Lib.hid (Nat.lt_of_lt_of_le B1.out hC'.size)
      rw [hq] at ST
      simp only [Option.bind_some] at ST
      clear hI' hC' hq A1 I1 C1 O1 B1
      go_wp2
      go_end0
      rw [ST.out]
      exact ⟨rfl, I2.out, C2.out, _, A2.out⟩
  by_cases n5 : k1 = 5
  · subst n5
    have ST := Lib.hid (stT_5 P1.out)
    have HS := Lib.hid hs
    clear hs P1
    go_wp2_with fail
    refine ((show T.Rec 67 claP from fCla T) w1 bs1 b 30 t.cla I1.out B1.out O1.out (A1.out.lcla.trans claP_len.symm) A1.out.cla (fun h => HS.out (by rw [ST.out, h]; rfl))).mono ?_
    intro e w2 hpost
    cases hq : T.st claP bs1 t.cla with
    | none =>
      rw [hq] at hpost
      obtain ⟨hse, hJ⟩ := hpost
      unfold Short at hse
      subst hse
      refine ⟨rfl, ?_⟩
      rw [ST.out, hq]
      exact ⟨rfl, hJ⟩
    | some q2 =>
      rw [hq] at hpost
      obtain ⟨rfl, hI', hC', hr'⟩ := hpost
      rw [claP_len] at hC'
      have LQ := stCla_len hq (A1.out.lcla)
      have A2 := Lib.hid (A1.out.claC HB.out hC' hr' LQ)
      have I2 := Lib.hid hI'
      have C2 := Lib.hid (C1.out.trans hC' (o := 0) (k := 170) (by omega) (by omega) (by omega) (by omega))
      have O2 := Lib.hid (hC'.own b B1.out O1.out)
      have B2 := Lib.hid (Nat.lt_of_lt_of_le B1.out hC'.size)
      rw [hq] at ST
      simp only [Option.bind_some] at ST
      clear hI' hC' hq A1 I1 C1 O1 B1
      go_wp2
      go_end0
      rw [ST.out]
      exact ⟨rfl, I2.out, C2.out, _, A2.out⟩
  have hst := stT_0 P1.out n1 n2 n3 n4 n5
  have ST := Lib.hid hst
  clear hst hs P1
  go_wp2
  go_end0
  rw [ST.out]
  exact ⟨rfl, I1.out, C1.out, _, A1.out⟩
end Go.Proofs.YtffaddefnpkcgaaGreatDoor

