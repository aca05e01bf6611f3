/-
  Records with parts in them.
-/
import Derived.Test.YtffaddefnpkcgaaGreatDoorZK
import Derived.Test.YtffaddefnpkcgaaGreatDoorZW
namespace Go.Proofs.YtffaddefnpkcgaaGreatDoor
open Go.RowKit
set_option maxRecDepth 100000
attribute [local irreducible] ua da ba kk sw S8.run rt hs comp splice outB sha msg zeros win bvals vals cel seg
theorem wpList_enter {P : Program} {ops : Array Oper} {rest : List Oper} {o : Oper} {a : Act} {w : World} {Q : Exit → Act → World → Prop} {F : Nat} {args : Array Value} (hw : Region.wanted o (yielded ops a.tmps) = true)
    (hrun : (execOp a.eval o).run P w = .ok (.enter F args) w)
    (hc : Calls P F args w fun | .returned v, w' => wpList P ops Q rest (a.put o.dst v) w' | .panicked c, w' => Q (.panic c) a w' | .outgrown, _ => LetsOut Q) : wpList P ops Q (o :: rest) a w := by
  unfold wpList
  rw [if_pos hw]
  refine .inl ?_
  unfold Oper.wp
  rw [hrun]
  exact hc
def sigP : List Pc := [.num 1] ++ (List.replicate 16 .hsh ++ (List.replicate 16 .hsh ++ List.replicate 3 .hsh))
theorem sig_len : (schP sigP).length = 281 := by
  unfold sigP
  rw [schP_app, schP_app, schP_app, List.length_append, List.length_append, List.length_append, sch_rep, sch_rep]
  rfl
def inP : List Pc := [.hsh] ++ ([.num 1] ++ ([.hsh] ++ sigP))
def sgnP : List Pc := [.num 1] ++ sigP
def claP : List Pc := [.num 1] ++ ([.num 2] ++ ([.hsh] ++ ([.num 7] ++ ([.num 1] ++ List.replicate 16 .hsh))))
theorem sigP_0 : sigP = [] ++ (.num 1 :: (List.replicate 16 .hsh ++ (List.replicate 16 .hsh ++ (List.replicate 3 .hsh)))) := rfl
theorem sigP_1 : sigP = [.num 1] ++ (List.replicate 16 .hsh ++ (List.replicate 16 .hsh ++ (List.replicate 3 .hsh))) := rfl
theorem sigP_2 : sigP = ([.num 1] ++ List.replicate 16 .hsh) ++ (List.replicate 16 .hsh ++ (List.replicate 3 .hsh)) := rfl
theorem sigP_3 : sigP = (([.num 1] ++ List.replicate 16 .hsh) ++ List.replicate 16 .hsh) ++ (List.replicate 3 .hsh ++ ([])) := rfl
theorem sigP_e : sigP = ((([.num 1] ++ List.replicate 16 .hsh) ++ List.replicate 16 .hsh) ++ List.replicate 3 .hsh) := rfl
theorem inP_0 : inP = [] ++ (.hsh :: ([.num 1] ++ ([.hsh] ++ (sigP)))) := rfl
theorem inP_1 : inP = [.hsh] ++ (.num 1 :: ([.hsh] ++ (sigP))) := rfl
theorem inP_2 : inP = ([.hsh] ++ [.num 1]) ++ (.hsh :: (sigP)) := rfl
theorem inP_3 : inP = (([.hsh] ++ [.num 1]) ++ [.hsh]) ++ (sigP ++ ([])) := rfl
theorem inP_e : inP = ((([.hsh] ++ [.num 1]) ++ [.hsh]) ++ sigP) := rfl
theorem sgnP_0 : sgnP = [] ++ (.num 1 :: (sigP)) := rfl
theorem sgnP_1 : sgnP = [.num 1] ++ (sigP ++ ([])) := rfl
theorem sgnP_e : sgnP = ([.num 1] ++ sigP) := rfl
theorem claP_0 : claP = [] ++ (.num 1 :: ([.num 2] ++ ([.hsh] ++ ([.num 7] ++ ([.num 1] ++ (List.replicate 16 .hsh)))))) := rfl
theorem claP_1 : claP = [.num 1] ++ (.num 2 :: ([.hsh] ++ ([.num 7] ++ ([.num 1] ++ (List.replicate 16 .hsh))))) := rfl
theorem claP_2 : claP = ([.num 1] ++ [.num 2]) ++ (.hsh :: ([.num 7] ++ ([.num 1] ++ (List.replicate 16 .hsh)))) := rfl
theorem claP_3 : claP = (([.num 1] ++ [.num 2]) ++ [.hsh]) ++ (.num 7 :: ([.num 1] ++ (List.replicate 16 .hsh))) := rfl
theorem claP_4 : claP = ((([.num 1] ++ [.num 2]) ++ [.hsh]) ++ [.num 7]) ++ (.num 1 :: (List.replicate 16 .hsh)) := rfl
theorem claP_5 : claP = (((([.num 1] ++ [.num 2]) ++ [.hsh]) ++ [.num 7]) ++ [.num 1]) ++ (List.replicate 16 .hsh ++ ([])) := rfl
theorem claP_e : claP = ((((([.num 1] ++ [.num 2]) ++ [.hsh]) ++ [.num 7]) ++ [.num 1]) ++ List.replicate 16 .hsh) := rfl
attribute [local irreducible] Tape.st schP List.replicate
set_option maxHeartbeats 4000000 in
theorem fSig (T : Tape) : T.Rec 94 sigP := by
  intro w bs b o r hI hb hO hl hr hs
  have M0 := mid0 (T := T) (r := r) (bs := bs) (o := o) hI hb hO
  go_enter Tryz.func94, Tryz.ntmps94
  go_upto_region 1 with (fail)
  rename_i K hKK
  have EQ := sigP_0
  obtain ⟨c, l⟩ := M0.getN (rs := List.replicate 16 .hsh ++ (List.replicate 16 .hsh ++ (List.replicate 3 .hsh))) (by rw [← EQ]; exact hr) (by rw [← EQ]; exact hl)
  have FL : Hid (T.stN 1 bs (cel r 0) = none → T.st sigP bs r = none) := fun h => by rw [EQ]; exact M0.failN (rs := List.replicate 16 .hsh ++ (List.replicate 16 .hsh ++ (List.replicate 3 .hsh))) h
  clear EQ
  refine wp_region_held_drew (S := fun _ => True) (by kernel_rfl) trivial (fun _ => ?_)
  refine tk (i := 0) (v := ?_) rfl (Or.inl ⟨by rfl, ?_⟩) trivial ?_
  rotate_left
  · (intro w _; go_simp; try with_reducible rfl)
  simp only [Act.put, ly1, ly3, ly4, ly5, ly6]
  refine tk (i := 1) (v := ?_) rfl (Or.inl ⟨by rfl, ?_⟩) trivial ?_
  rotate_left
  · (intro w _; go_simp; try with_reducible rfl)
  simp only [Act.put, ly1, ly2, ly3, ly4, ly5, ly6]
  refine tk (i := 2) (v := ?_) rfl (Or.inl ⟨by rfl, ?_⟩) trivial ?_
  rotate_left
  · (intro w _; go_simp; try with_reducible rfl)
  simp only [Act.put, ly1, ly2, ly3, ly4, ly5, ly6]
  refine tk (i := 3) (v := ?_) rfl (Or.inl ⟨by rfl, ?_⟩) trivial ?_
  rotate_left
  · (intro w _; go_simp; try with_reducible rfl)
  simp only [Act.put, ly1, ly2, ly3, ly4, ly5, ly6]
  refine tk (i := 4) (v := ?_) rfl (Or.inl ⟨by rfl, ?_⟩) trivial ?_
  rotate_left
  · (intro w _; go_simp; try with_reducible rfl)
  simp only [Act.put, ly1, ly2, ly3, ly4, ly5, ly6]
  refine tk (i := 5) rfl (Or.inl ⟨by rfl, fun w _ => T.nilN (by rfl) (by rfl) w⟩) trivial ?_
  simp only [Act.put, ly1, ly2, ly3, ly4, ly5, ly6]
  refine tk (i := 6) (v := ?_) rfl (Or.inl ⟨by rfl, ?_⟩) trivial ?_
  rotate_left
  · (intro w _; go_simp; try with_reducible rfl)
  simp only [Act.put, ly1, ly2, ly3, ly4, ly5, ly6]
  refine wpAnyH_ready (rs := [7]) (by kernel_rfl) (by simp) ?_
  refine AllReadyH.cons rfl (fun Kq hKq => ?_) AllReadyH.nil
  refine step_enter (by rfl) (run_invN T (by rfl) (by rfl) (by rfl) (by rfl)) ((T.numD w bs b o _ 1 (by decide) (by decide) M0.I M0.lt M0.own c (fun h => hs (FL.out h))).mono ?_)
  rintro e w1 (⟨p1, hp, rfl, hI', hC', hr'⟩ | ⟨hn, hse, hJ⟩)
  rotate_left
  · unfold Short at hse
    subst hse
    refine ⟨rfl, ?_⟩
    rw [FL.out hn]
    exact ⟨rfl, hJ⟩
  refine hKq.out _ _ trivial (fun _ => ?_)
  clear hKq Kq
  simp only [Act.put, ly1, ly2, ly3, ly4, ly5, ly6]
  refine wpAnyH_done (by kernel_rfl) ?_ _
  have M1 : Mid T w b o bs r ([.num 1]) 1 w1 p1.1 _ := M0.num hp l hI' hC' hr'
  clear hp hI' hC' hr' c l M0 FL
  show K _ _
  refine hKK _ _ ?_
  clear hKK K
  go_upto_region 2 with (fail)
  rename_i K hKK
  have EQ := sigP_1
  obtain ⟨c, l⟩ := M1.getS (qs := List.replicate 16 .hsh) (rs := List.replicate 16 .hsh ++ (List.replicate 3 .hsh)) (m := 128) (by rw [← EQ]; exact hr) (by rw [← EQ]; exact hl) (show _ = 128 from sch_rep 16)
  have FL : Hid (T.st (List.replicate 16 .hsh) p1.1 ((r.drop 1).take 128) = none → T.st sigP bs r = none) := fun h => by rw [EQ]; exact M1.failS (qs := List.replicate 16 .hsh) (rs := List.replicate 16 .hsh ++ (List.replicate 3 .hsh)) (m := 128) (show _ = 128 from sch_rep 16) h
  clear EQ
  refine (fHashes T w1 p1.1 b (o + 1) 16 16 _ M1.I M1.lt M1.own (l.trans (Eq.symm (show _ = 128 from sch_rep 16))) c (fun h => hs (FL.out h)) (by decide) (by decide) (by decide)).mono ?_
  intro e w2 hpost
  cases hq : T.st (List.replicate 16 .hsh) p1.1 ((r.drop 1).take 128) with
  | none =>
    rw [hq] at hpost
    obtain ⟨hse, hJ⟩ := hpost
    unfold Short at hse
    subst hse
    refine ⟨rfl, ?_⟩
    rw [FL.out hq]
    exact ⟨rfl, hJ⟩
  | some p2 =>
    rw [hq] at hpost
    obtain ⟨rfl, hI', hC', hr'⟩ := hpost
    rw [(show _ = 128 from sch_rep 16)] at hC'
    have M2 : Mid T w b o bs r (([.num 1] ++ List.replicate 16 .hsh)) 129 w2 p2.1 _ := M1.sub (qs := List.replicate 16 .hsh) (m := 128) hq (show _ = 128 from sch_rep 16) l hI' hC' hr'
    clear hq hI' hC' hr' c l M1 FL
    show K _ _
    refine hKK _ _ ?_
    clear hKK K
    go_upto_region 3 with (fail)
    rename_i K hKK
    have EQ := sigP_2
    obtain ⟨c, l⟩ := M2.getS (qs := List.replicate 16 .hsh) (rs := List.replicate 3 .hsh) (m := 128) (by rw [← EQ]; exact hr) (by rw [← EQ]; exact hl) (show _ = 128 from sch_rep 16)
    have FL : Hid (T.st (List.replicate 16 .hsh) p2.1 ((r.drop 129).take 128) = none → T.st sigP bs r = none) := fun h => by rw [EQ]; exact M2.failS (qs := List.replicate 16 .hsh) (rs := List.replicate 3 .hsh) (m := 128) (show _ = 128 from sch_rep 16) h
    clear EQ
    refine (fHashes T w2 p2.1 b (o + 129) 16 16 _ M2.I M2.lt M2.own (l.trans (Eq.symm (show _ = 128 from sch_rep 16))) c (fun h => hs (FL.out h)) (by decide) (by decide) (by decide)).mono ?_
    intro e w3 hpost
    cases hq : T.st (List.replicate 16 .hsh) p2.1 ((r.drop 129).take 128) with
    | none =>
      rw [hq] at hpost
      obtain ⟨hse, hJ⟩ := hpost
      unfold Short at hse
      subst hse
      refine ⟨rfl, ?_⟩
      rw [FL.out hq]
      exact ⟨rfl, hJ⟩
    | some p3 =>
      rw [hq] at hpost
      obtain ⟨rfl, hI', hC', hr'⟩ := hpost
      rw [(show _ = 128 from sch_rep 16)] at hC'
      have M3 : Mid T w b o bs r ((([.num 1] ++ List.replicate 16 .hsh) ++ List.replicate 16 .hsh)) 257 w3 p3.1 _ := M2.sub (qs := List.replicate 16 .hsh) (m := 128) hq (show _ = 128 from sch_rep 16) l hI' hC' hr'
      clear hq hI' hC' hr' c l M2 FL
      show K _ _
      refine hKK _ _ ?_
      clear hKK K
      have EQ := sigP_3
      obtain ⟨c, l⟩ := M3.getS (qs := List.replicate 3 .hsh) (rs := []) (m := 24) (by rw [← EQ]; exact hr) (by rw [← EQ]; exact hl) (show _ = 24 from sch_rep 3)
      have FL : Hid (T.st (List.replicate 3 .hsh) p3.1 ((r.drop 257).take 24) = none → T.st sigP bs r = none) := fun h => by rw [EQ]; exact M3.failS (qs := List.replicate 3 .hsh) (rs := []) (m := 24) (show _ = 24 from sch_rep 3) h
      clear EQ
      go_wp2_with fail
      refine (fHashes T w3 p3.1 b (o + 257) 3 3 _ M3.I M3.lt M3.own (l.trans (Eq.symm (show _ = 24 from sch_rep 3))) c (fun h => hs (FL.out h)) (by decide) (by decide) (by decide)).mono ?_
      intro e w4 hpost
      cases hq : T.st (List.replicate 3 .hsh) p3.1 ((r.drop 257).take 24) with
      | none =>
        rw [hq] at hpost
        obtain ⟨hse, hJ⟩ := hpost
        unfold Short at hse
        subst hse
        refine ⟨rfl, ?_⟩
        rw [FL.out hq]
        exact ⟨rfl, hJ⟩
      | some p4 =>
        rw [hq] at hpost
        obtain ⟨rfl, hI', hC', hr'⟩ := hpost
        rw [(show _ = 24 from sch_rep 3)] at hC'
        have M4 : Mid T w b o bs r (((([.num 1] ++ List.replicate 16 .hsh) ++ List.replicate 16 .hsh) ++ List.replicate 3 .hsh)) 281 w4 p4.1 _ := M3.sub (qs := List.replicate 3 .hsh) (m := 24) hq (show _ = 24 from sch_rep 3) l hI' hC' hr'
        clear hq hI' hC' hr' c l M3 FL
        go_wp2
        go_end0
        rw [sigP_e]
        exact M4.all
set_option maxHeartbeats 4000000 in
theorem fIn (T : Tape) : T.Rec 62 inP := by
  intro w bs b o r hI hb hO hl hr hs
  have M0 := mid0 (T := T) (r := r) (bs := bs) (o := o) hI hb hO
  go_enter Tryz.func62, Tryz.ntmps62
  go_upto_region 1 with (fail)
  rename_i K hKK
  have EQ := inP_0
  obtain ⟨c, l⟩ := M0.getH (rs := [.num 1] ++ ([.hsh] ++ (sigP))) (by rw [← EQ]; exact hr) (by rw [← EQ]; exact hl)
  have FL : Hid (T.stH bs ((r.drop 0).take 8) = none → T.st inP bs r = none) := fun h => by rw [EQ]; exact M0.failH (rs := [.num 1] ++ ([.hsh] ++ (sigP))) h
  clear EQ
  refine wp_region_held_drew (S := fun _ => True) (by kernel_rfl) trivial (fun _ => ?_)
  refine tk (i := 0) (v := ?_) rfl (Or.inl ⟨by rfl, ?_⟩) trivial ?_
  rotate_left
  · (intro w _; go_simp; try with_reducible rfl)
  simp only [Act.put, ly1, ly3, ly4, ly5, ly6]
  refine tk (i := 1) (v := ?_) rfl (Or.inl ⟨by rfl, ?_⟩) trivial ?_
  rotate_left
  · (intro w _; go_simp; try with_reducible rfl)
  simp only [Act.put, ly1, ly2, ly3, ly4, ly5, ly6]
  refine tk (i := 2) (v := ?_) rfl (Or.inl ⟨by rfl, ?_⟩) trivial ?_
  rotate_left
  · (intro w _; go_simp; try with_reducible rfl)
  simp only [Act.put, ly1, ly2, ly3, ly4, ly5, ly6]
  refine tk (i := 3) (v := ?_) rfl (Or.inl ⟨by rfl, ?_⟩) trivial ?_
  rotate_left
  · (intro w _; go_simp; try with_reducible rfl)
  simp only [Act.put, ly1, ly2, ly3, ly4, ly5, ly6]
  refine tk (i := 4) (v := ?_) rfl (Or.inl ⟨by rfl, ?_⟩) trivial ?_
  rotate_left
  · (intro w _; go_simp; try with_reducible rfl)
  simp only [Act.put, ly1, ly2, ly3, ly4, ly5, ly6]
  refine tk (i := 5) (v := ?_) rfl (Or.inl ⟨by rfl, ?_⟩) trivial ?_
  rotate_left
  · (intro w _; go_simp; try with_reducible rfl)
  simp only [Act.put, ly1, ly2, ly3, ly4, ly5, ly6]
  refine tk (i := 6) rfl (Or.inl ⟨by rfl, fun w _ => T.nilH (by rfl) (by rfl) w⟩) trivial ?_
  simp only [Act.put, ly1, ly2, ly3, ly4, ly5, ly6]
  refine tk (i := 7) (v := ?_) rfl (Or.inl ⟨by rfl, ?_⟩) trivial ?_
  rotate_left
  · (intro w _; go_simp; try with_reducible rfl)
  simp only [Act.put, ly1, ly2, ly3, ly4, ly5, ly6]
  refine wpAnyH_ready (rs := [8]) (by kernel_rfl) (by simp) ?_
  refine AllReadyH.cons rfl (fun Kq hKq => ?_) AllReadyH.nil
  refine step_enter (by rfl) (run_invH T (by rfl) (by rfl) (by rfl)) ((T.hashD w bs b o _ M0.I M0.lt M0.own l c (fun h => hs (FL.out h))).mono ?_)
  rintro e w1 (⟨p1, hp, rfl, hI', hC', hr'⟩ | ⟨hn, hse, hJ⟩)
  rotate_left
  · unfold Short at hse
    subst hse
    refine ⟨rfl, ?_⟩
    rw [FL.out hn]
    exact ⟨rfl, hJ⟩
  refine hKq.out _ _ trivial (fun _ => ?_)
  clear hKq Kq
  simp only [Act.put, ly1, ly2, ly3, ly4, ly5, ly6]
  refine wpAnyH_done (by kernel_rfl) ?_ _
  have M1 : Mid T w b o bs r ([.hsh]) 8 w1 p1.1 _ := M0.hsh hp l hI' hC' hr'
  clear hp hI' hC' hr' c l M0 FL
  show K _ _
  refine hKK _ _ ?_
  clear hKK K
  go_upto_region 2 with (fail)
  rename_i K hKK
  have EQ := inP_1
  obtain ⟨c, l⟩ := M1.getN (rs := [.hsh] ++ (sigP)) (by rw [← EQ]; exact hr) (by rw [← EQ]; exact hl)
  have FL : Hid (T.stN 1 p1.1 (cel r 8) = none → T.st inP bs r = none) := fun h => by rw [EQ]; exact M1.failN (rs := [.hsh] ++ (sigP)) h
  clear EQ
  refine wp_region_held_drew (S := fun _ => True) (by kernel_rfl) trivial (fun _ => ?_)
  refine tk (i := 0) (v := ?_) rfl (Or.inl ⟨by rfl, ?_⟩) trivial ?_
  rotate_left
  · (intro w _; go_simp; try with_reducible rfl)
  simp only [Act.put, ly1, ly3, ly4, ly5, ly6]
  refine tk (i := 1) (v := ?_) rfl (Or.inl ⟨by rfl, ?_⟩) trivial ?_
  rotate_left
  · (intro w _; go_simp; try with_reducible rfl)
  simp only [Act.put, ly1, ly2, ly3, ly4, ly5, ly6]
  refine tk (i := 2) (v := ?_) rfl (Or.inl ⟨by rfl, ?_⟩) trivial ?_
  rotate_left
  · (intro w _; go_simp; try with_reducible rfl)
  simp only [Act.put, ly1, ly2, ly3, ly4, ly5, ly6]
  refine tk (i := 3) (v := ?_) rfl (Or.inl ⟨by rfl, ?_⟩) trivial ?_
  rotate_left
  · (intro w _; go_simp; try with_reducible rfl)
  simp only [Act.put, ly1, ly2, ly3, ly4, ly5, ly6]
  refine tk (i := 4) (v := ?_) rfl (Or.inl ⟨by rfl, ?_⟩) trivial ?_
  rotate_left
  · (intro w _; go_simp; try with_reducible rfl)
  simp only [Act.put, ly1, ly2, ly3, ly4, ly5, ly6]
  refine tk (i := 5) (v := ?_) rfl (Or.inl ⟨by rfl, ?_⟩) trivial ?_
  rotate_left
  · (intro w _; go_simp; try with_reducible rfl)
  simp only [Act.put, ly1, ly2, ly3, ly4, ly5, ly6]
  refine tk (i := 6) rfl (Or.inl ⟨by rfl, fun w _ => T.nilN (by rfl) (by rfl) w⟩) trivial ?_
  simp only [Act.put, ly1, ly2, ly3, ly4, ly5, ly6]
  refine tk (i := 7) (v := ?_) rfl (Or.inl ⟨by rfl, ?_⟩) trivial ?_
  rotate_left
  · (intro w _; go_simp; try with_reducible rfl)
  simp only [Act.put, ly1, ly2, ly3, ly4, ly5, ly6]
  refine wpAnyH_ready (rs := [8]) (by kernel_rfl) (by simp) ?_
  refine AllReadyH.cons rfl (fun Kq hKq => ?_) AllReadyH.nil
  refine step_enter (by rfl) (run_invN T (by rfl) (by rfl) (by rfl) (by rfl)) ((T.numD w1 p1.1 b (o + 8) _ 1 (by decide) (by decide) M1.I M1.lt M1.own c (fun h => hs (FL.out h))).mono ?_)
  rintro e w2 (⟨p2, hp, rfl, hI', hC', hr'⟩ | ⟨hn, hse, hJ⟩)
  rotate_left
  · unfold Short at hse
    subst hse
    refine ⟨rfl, ?_⟩
    rw [FL.out hn]
    exact ⟨rfl, hJ⟩
  refine hKq.out _ _ trivial (fun _ => ?_)
  clear hKq Kq
  simp only [Act.put, ly1, ly2, ly3, ly4, ly5, ly6]
  refine wpAnyH_done (by kernel_rfl) ?_ _
  have M2 : Mid T w b o bs r (([.hsh] ++ [.num 1])) 9 w2 p2.1 _ := M1.num hp l hI' hC' hr'
  clear hp hI' hC' hr' c l M1 FL
  show K _ _
  refine hKK _ _ ?_
  clear hKK K
  go_upto_region 3 with (fail)
  rename_i K hKK
  have EQ := inP_2
  obtain ⟨c, l⟩ := M2.getH (rs := sigP) (by rw [← EQ]; exact hr) (by rw [← EQ]; exact hl)
  have FL : Hid (T.stH p2.1 ((r.drop 9).take 8) = none → T.st inP bs r = none) := fun h => by rw [EQ]; exact M2.failH (rs := sigP) h
  clear EQ
  refine wp_region_held_drew (S := fun _ => True) (by kernel_rfl) trivial (fun _ => ?_)
  refine tk (i := 0) (v := ?_) rfl (Or.inl ⟨by rfl, ?_⟩) trivial ?_
  rotate_left
  · (intro w _; go_simp; try with_reducible rfl)
  simp only [Act.put, ly1, ly3, ly4, ly5, ly6]
  refine tk (i := 1) (v := ?_) rfl (Or.inl ⟨by rfl, ?_⟩) trivial ?_
  rotate_left
  · (intro w _; go_simp; try with_reducible rfl)
  simp only [Act.put, ly1, ly2, ly3, ly4, ly5, ly6]
  refine tk (i := 2) (v := ?_) rfl (Or.inl ⟨by rfl, ?_⟩) trivial ?_
  rotate_left
  · (intro w _; go_simp; try with_reducible rfl)
  simp only [Act.put, ly1, ly2, ly3, ly4, ly5, ly6]
  refine tk (i := 3) (v := ?_) rfl (Or.inl ⟨by rfl, ?_⟩) trivial ?_
  rotate_left
  · (intro w _; go_simp; try with_reducible rfl)
  simp only [Act.put, ly1, ly2, ly3, ly4, ly5, ly6]
  refine tk (i := 4) (v := ?_) rfl (Or.inl ⟨by rfl, ?_⟩) trivial ?_
  rotate_left
  · (intro w _; go_simp; try with_reducible rfl)
  simp only [Act.put, ly1, ly2, ly3, ly4, ly5, ly6]
  refine tk (i := 5) rfl (Or.inl ⟨by rfl, fun w _ => T.nilH (by rfl) (by rfl) w⟩) trivial ?_
  simp only [Act.put, ly1, ly2, ly3, ly4, ly5, ly6]
  refine tk (i := 6) (v := ?_) rfl (Or.inl ⟨by rfl, ?_⟩) trivial ?_
  rotate_left
  · (intro w _; go_simp; try with_reducible rfl)
  simp only [Act.put, ly1, ly2, ly3, ly4, ly5, ly6]
  refine wpAnyH_ready (rs := [7]) (by kernel_rfl) (by simp) ?_
  refine AllReadyH.cons rfl (fun Kq hKq => ?_) AllReadyH.nil
  refine step_enter (by rfl) (run_invH T (by rfl) (by rfl) (by rfl)) ((T.hashD w2 p2.1 b (o + 9) _ M2.I M2.lt M2.own l c (fun h => hs (FL.out h))).mono ?_)
  rintro e w3 (⟨p3, hp, rfl, hI', hC', hr'⟩ | ⟨hn, hse, hJ⟩)
  rotate_left
  · unfold Short at hse
    subst hse
    refine ⟨rfl, ?_⟩
    rw [FL.out hn]
    exact ⟨rfl, hJ⟩
  refine hKq.out _ _ trivial (fun _ => ?_)
  clear hKq Kq
  simp only [Act.put, ly1, ly2, ly3, ly4, ly5, ly6]
  refine wpAnyH_done (by kernel_rfl) ?_ _
  have M3 : Mid T w b o bs r ((([.hsh] ++ [.num 1]) ++ [.hsh])) 17 w3 p3.1 _ := M2.hsh hp l hI' hC' hr'
  clear hp hI' hC' hr' c l M2 FL
  show K _ _
  refine hKK _ _ ?_
  clear hKK K
  have EQ := inP_3
  obtain ⟨c, l⟩ := M3.getS (qs := sigP) (rs := []) (m := 281) (by rw [← EQ]; exact hr) (by rw [← EQ]; exact hl) sig_len
  have FL : Hid (T.st (sigP) p3.1 ((r.drop 17).take 281) = none → T.st inP bs r = none) := fun h => by rw [EQ]; exact M3.failS (qs := sigP) (rs := []) (m := 281) sig_len h
  clear EQ
  go_wp2_with fail
  refine (fSig T w3 p3.1 b (o + 17) _ M3.I M3.lt M3.own (l.trans (Eq.symm sig_len)) c (fun h => hs (FL.out h))).mono ?_
  intro e w4 hpost
  cases hq : T.st (sigP) p3.1 ((r.drop 17).take 281) with
  | none =>
    rw [hq] at hpost
    obtain ⟨hse, hJ⟩ := hpost
    unfold Short at hse
    subst hse
    refine ⟨rfl, ?_⟩
    rw [FL.out hq]
    exact ⟨rfl, hJ⟩
  | some p4 =>
    rw [hq] at hpost
    obtain ⟨rfl, hI', hC', hr'⟩ := hpost
    rw [sig_len] at hC'
    have M4 : Mid T w b o bs r (((([.hsh] ++ [.num 1]) ++ [.hsh]) ++ sigP)) 298 w4 p4.1 _ := M3.sub (qs := sigP) (m := 281) hq sig_len l hI' hC' hr'
    clear hq hI' hC' hr' c l M3 FL
    go_wp2
    go_end0
    rw [inP_e]
    exact M4.all
set_option maxHeartbeats 4000000 in
theorem fSgn (T : Tape) : T.Rec 97 sgnP := by
  intro w bs b o r hI hb hO hl hr hs
  have M0 := mid0 (T := T) (r := r) (bs := bs) (o := o) hI hb hO
  go_enter Tryz.func97, Tryz.ntmps97
  go_upto_region 1 with (fail)
  rename_i K hKK
  have EQ := sgnP_0
  obtain ⟨c, l⟩ := M0.getN (rs := sigP) (by rw [← EQ]; exact hr) (by rw [← EQ]; exact hl)
  have FL : Hid (T.stN 1 bs (cel r 0) = none → T.st sgnP bs r = none) := fun h => by rw [EQ]; exact M0.failN (rs := sigP) h
  clear EQ
  refine wp_region_held_drew (S := fun _ => True) (by kernel_rfl) trivial (fun _ => ?_)
  refine tk (i := 0) (v := ?_) rfl (Or.inl ⟨by rfl, ?_⟩) trivial ?_
  rotate_left
  · (intro w _; go_simp; try with_reducible rfl)
  simp only [Act.put, ly1, ly3, ly4, ly5, ly6]
  refine tk (i := 1) (v := ?_) rfl (Or.inl ⟨by rfl, ?_⟩) trivial ?_
  rotate_left
  · (intro w _; go_simp; try with_reducible rfl)
  simp only [Act.put, ly1, ly2, ly3, ly4, ly5, ly6]
  refine tk (i := 2) (v := ?_) rfl (Or.inl ⟨by rfl, ?_⟩) trivial ?_
  rotate_left
  · (intro w _; go_simp; try with_reducible rfl)
  simp only [Act.put, ly1, ly2, ly3, ly4, ly5, ly6]
  refine tk (i := 3) (v := ?_) rfl (Or.inl ⟨by rfl, ?_⟩) trivial ?_
  rotate_left
  · (intro w _; go_simp; try with_reducible rfl)
  simp only [Act.put, ly1, ly2, ly3, ly4, ly5, ly6]
  refine tk (i := 4) (v := ?_) rfl (Or.inl ⟨by rfl, ?_⟩) trivial ?_
  rotate_left
  · (intro w _; go_simp; try with_reducible rfl)
  simp only [Act.put, ly1, ly2, ly3, ly4, ly5, ly6]
  refine tk (i := 5) rfl (Or.inl ⟨by rfl, fun w _ => T.nilN (by rfl) (by rfl) w⟩) trivial ?_
  simp only [Act.put, ly1, ly2, ly3, ly4, ly5, ly6]
  refine tk (i := 6) (v := ?_) rfl (Or.inl ⟨by rfl, ?_⟩) trivial ?_
  rotate_left
  · (intro w _; go_simp; try with_reducible rfl)
  simp only [Act.put, ly1, ly2, ly3, ly4, ly5, ly6]
  refine wpAnyH_ready (rs := [7]) (by kernel_rfl) (by simp) ?_
  refine AllReadyH.cons rfl (fun Kq hKq => ?_) AllReadyH.nil
  refine step_enter (by rfl) (run_invN T (by rfl) (by rfl) (by rfl) (by rfl)) ((T.numD w bs b o _ 1 (by decide) (by decide) M0.I M0.lt M0.own c (fun h => hs (FL.out h))).mono ?_)
  rintro e w1 (⟨p1, hp, rfl, hI', hC', hr'⟩ | ⟨hn, hse, hJ⟩)
  rotate_left
  · unfold Short at hse
    subst hse
    refine ⟨rfl, ?_⟩
    rw [FL.out hn]
    exact ⟨rfl, hJ⟩
  refine hKq.out _ _ trivial (fun _ => ?_)
  clear hKq Kq
  simp only [Act.put, ly1, ly2, ly3, ly4, ly5, ly6]
  refine wpAnyH_done (by kernel_rfl) ?_ _
  have M1 : Mid T w b o bs r ([.num 1]) 1 w1 p1.1 _ := M0.num hp l hI' hC' hr'
  clear hp hI' hC' hr' c l M0 FL
  show K _ _
  refine hKK _ _ ?_
  clear hKK K
  have EQ := sgnP_1
  obtain ⟨c, l⟩ := M1.getS (qs := sigP) (rs := []) (m := 281) (by rw [← EQ]; exact hr) (by rw [← EQ]; exact hl) sig_len
  have FL : Hid (T.st (sigP) p1.1 ((r.drop 1).take 281) = none → T.st sgnP bs r = none) := fun h => by rw [EQ]; exact M1.failS (qs := sigP) (rs := []) (m := 281) sig_len h
  clear EQ
  go_wp2_with fail
  refine (fSig T w1 p1.1 b (o + 1) _ M1.I M1.lt M1.own (l.trans (Eq.symm sig_len)) c (fun h => hs (FL.out h))).mono ?_
  intro e w2 hpost
  cases hq : T.st (sigP) p1.1 ((r.drop 1).take 281) with
  | none =>
    rw [hq] at hpost
    obtain ⟨hse, hJ⟩ := hpost
    unfold Short at hse
    subst hse
    refine ⟨rfl, ?_⟩
    rw [FL.out hq]
    exact ⟨rfl, hJ⟩
  | some p2 =>
    rw [hq] at hpost
    obtain ⟨rfl, hI', hC', hr'⟩ := hpost
    rw [sig_len] at hC'
    have M2 : Mid T w b o bs r (([.num 1] ++ sigP)) 282 w2 p2.1 _ := M1.sub (qs := sigP) (m := 281) hq sig_len l hI' hC' hr'
    clear hq hI' hC' hr' c l M1 FL
    go_wp2
    go_end0
    rw [sgnP_e]
    exact M2.all
set_option maxHeartbeats 4000000 in
theorem fCla (T : Tape) : T.Rec 67 claP := by
  intro w bs b o r hI hb hO hl hr hs
  have M0 := mid0 (T := T) (r := r) (bs := bs) (o := o) hI hb hO
  go_enter Tryz.func67, Tryz.ntmps67
  go_upto_region 1 with (fail)
  rename_i K hKK
  have EQ := claP_0
  obtain ⟨c, l⟩ := M0.getN (rs := [.num 2] ++ ([.hsh] ++ ([.num 7] ++ ([.num 1] ++ (List.replicate 16 .hsh))))) (by rw [← EQ]; exact hr) (by rw [← EQ]; exact hl)
  have FL : Hid (T.stN 1 bs (cel r 0) = none → T.st claP bs r = none) := fun h => by rw [EQ]; exact M0.failN (rs := [.num 2] ++ ([.hsh] ++ ([.num 7] ++ ([.num 1] ++ (List.replicate 16 .hsh))))) h
  clear EQ
  refine wp_region_held_drew (S := fun _ => True) (by kernel_rfl) trivial (fun _ => ?_)
  refine tk (i := 0) (v := ?_) rfl (Or.inl ⟨by rfl, ?_⟩) trivial ?_
  rotate_left
  · (intro w _; go_simp; try with_reducible rfl)
  simp only [Act.put, ly1, ly3, ly4, ly5, ly6]
  refine tk (i := 1) (v := ?_) rfl (Or.inl ⟨by rfl, ?_⟩) trivial ?_
  rotate_left
  · (intro w _; go_simp; try with_reducible rfl)
  simp only [Act.put, ly1, ly2, ly3, ly4, ly5, ly6]
  refine tk (i := 2) (v := ?_) rfl (Or.inl ⟨by rfl, ?_⟩) trivial ?_
  rotate_left
  · (intro w _; go_simp; try with_reducible rfl)
  simp only [Act.put, ly1, ly2, ly3, ly4, ly5, ly6]
  refine tk (i := 3) (v := ?_) rfl (Or.inl ⟨by rfl, ?_⟩) trivial ?_
  rotate_left
  · (intro w _; go_simp; try with_reducible rfl)
  simp only [Act.put, ly1, ly2, ly3, ly4, ly5, ly6]
  refine tk (i := 4) (v := ?_) rfl (Or.inl ⟨by rfl, ?_⟩) trivial ?_
  rotate_left
  · (intro w _; go_simp; try with_reducible rfl)
  simp only [Act.put, ly1, ly2, ly3, ly4, ly5, ly6]
  refine tk (i := 5) rfl (Or.inl ⟨by rfl, fun w _ => T.nilN (by rfl) (by rfl) w⟩) trivial ?_
  simp only [Act.put, ly1, ly2, ly3, ly4, ly5, ly6]
  refine tk (i := 6) (v := ?_) rfl (Or.inl ⟨by rfl, ?_⟩) trivial ?_
  rotate_left
  · (intro w _; go_simp; try with_reducible rfl)
  simp only [Act.put, ly1, ly2, ly3, ly4, ly5, ly6]
  refine wpAnyH_ready (rs := [7]) (by kernel_rfl) (by simp) ?_
  refine AllReadyH.cons rfl (fun Kq hKq => ?_) AllReadyH.nil
  refine step_enter (by rfl) (run_invN T (by rfl) (by rfl) (by rfl) (by rfl)) ((T.numD w bs b o _ 1 (by decide) (by decide) M0.I M0.lt M0.own c (fun h => hs (FL.out h))).mono ?_)
  rintro e w1 (⟨p1, hp, rfl, hI', hC', hr'⟩ | ⟨hn, hse, hJ⟩)
  rotate_left
  · unfold Short at hse
    subst hse
    refine ⟨rfl, ?_⟩
    rw [FL.out hn]
    exact ⟨rfl, hJ⟩
  refine hKq.out _ _ trivial (fun _ => ?_)
  clear hKq Kq
  simp only [Act.put, ly1, ly2, ly3, ly4, ly5, ly6]
  refine wpAnyH_done (by kernel_rfl) ?_ _
  have M1 : Mid T w b o bs r ([.num 1]) 1 w1 p1.1 _ := M0.num hp l hI' hC' hr'
  clear hp hI' hC' hr' c l M0 FL
  show K _ _
  refine hKK _ _ ?_
  clear hKK K
  go_upto_region 2 with (fail)
  rename_i K hKK
  have EQ := claP_1
  obtain ⟨c, l⟩ := M1.getN (rs := [.hsh] ++ ([.num 7] ++ ([.num 1] ++ (List.replicate 16 .hsh)))) (by rw [← EQ]; exact hr) (by rw [← EQ]; exact hl)
  have FL : Hid (T.stN 2 p1.1 (cel r 1) = none → T.st claP bs r = none) := fun h => by rw [EQ]; exact M1.failN (rs := [.hsh] ++ ([.num 7] ++ ([.num 1] ++ (List.replicate 16 .hsh)))) h
  clear EQ
  refine wp_region_held_drew (S := fun _ => True) (by kernel_rfl) trivial (fun _ => ?_)
  refine tk (i := 0) (v := ?_) rfl (Or.inl ⟨by rfl, ?_⟩) trivial ?_
  rotate_left
  · (intro w _; go_simp; try with_reducible rfl)
  simp only [Act.put, ly1, ly3, ly4, ly5, ly6]
  refine tk (i := 1) (v := ?_) rfl (Or.inl ⟨by rfl, ?_⟩) trivial ?_
  rotate_left
  · (intro w _; go_simp; try with_reducible rfl)
  simp only [Act.put, ly1, ly2, ly3, ly4, ly5, ly6]
  refine tk (i := 2) (v := ?_) rfl (Or.inl ⟨by rfl, ?_⟩) trivial ?_
  rotate_left
  · (intro w _; go_simp; try with_reducible rfl)
  simp only [Act.put, ly1, ly2, ly3, ly4, ly5, ly6]
  refine tk (i := 3) (v := ?_) rfl (Or.inl ⟨by rfl, ?_⟩) trivial ?_
  rotate_left
  · (intro w _; go_simp; try with_reducible rfl)
  simp only [Act.put, ly1, ly2, ly3, ly4, ly5, ly6]
  refine tk (i := 4) (v := ?_) rfl (Or.inl ⟨by rfl, ?_⟩) trivial ?_
  rotate_left
  · (intro w _; go_simp; try with_reducible rfl)
  simp only [Act.put, ly1, ly2, ly3, ly4, ly5, ly6]
  refine tk (i := 5) rfl (Or.inl ⟨by rfl, fun w _ => T.nilN (by rfl) (by rfl) w⟩) trivial ?_
  simp only [Act.put, ly1, ly2, ly3, ly4, ly5, ly6]
  refine tk (i := 6) (v := ?_) rfl (Or.inl ⟨by rfl, ?_⟩) trivial ?_
  rotate_left
  · (intro w _; go_simp; try with_reducible rfl)
  simp only [Act.put, ly1, ly2, ly3, ly4, ly5, ly6]
  refine wpAnyH_ready (rs := [7]) (by kernel_rfl) (by simp) ?_
  refine AllReadyH.cons rfl (fun Kq hKq => ?_) AllReadyH.nil
  refine step_enter (by rfl) (run_invN T (by rfl) (by rfl) (by rfl) (by rfl)) ((T.numD w1 p1.1 b (o + 1) _ 2 (by decide) (by decide) M1.I M1.lt M1.own c (fun h => hs (FL.out h))).mono ?_)
  rintro e w2 (⟨p2, hp, rfl, hI', hC', hr'⟩ | ⟨hn, hse, hJ⟩)
  rotate_left
  · unfold Short at hse
    subst hse
    refine ⟨rfl, ?_⟩
    rw [FL.out hn]
    exact ⟨rfl, hJ⟩
  refine hKq.out _ _ trivial (fun _ => ?_)
  clear hKq Kq
  simp only [Act.put, ly1, ly2, ly3, ly4, ly5, ly6]
  refine wpAnyH_done (by kernel_rfl) ?_ _
  have M2 : Mid T w b o bs r (([.num 1] ++ [.num 2])) 2 w2 p2.1 _ := M1.num hp l hI' hC' hr'
  clear hp hI' hC' hr' c l M1 FL
  show K _ _
  refine hKK _ _ ?_
  clear hKK K
  go_upto_region 3 with (fail)
  rename_i K hKK
  have EQ := claP_2
  obtain ⟨c, l⟩ := M2.getH (rs := [.num 7] ++ ([.num 1] ++ (List.replicate 16 .hsh))) (by rw [← EQ]; exact hr) (by rw [← EQ]; exact hl)
  have FL : Hid (T.stH p2.1 ((r.drop 2).take 8) = none → T.st claP bs r = none) := fun h => by rw [EQ]; exact M2.failH (rs := [.num 7] ++ ([.num 1] ++ (List.replicate 16 .hsh))) h
  clear EQ
  refine wp_region_held_drew (S := fun _ => True) (by kernel_rfl) trivial (fun _ => ?_)
  refine tk (i := 0) (v := ?_) rfl (Or.inl ⟨by rfl, ?_⟩) trivial ?_
  rotate_left
  · (intro w _; go_simp; try with_reducible rfl)
  simp only [Act.put, ly1, ly3, ly4, ly5, ly6]
  refine tk (i := 1) (v := ?_) rfl (Or.inl ⟨by rfl, ?_⟩) trivial ?_
  rotate_left
  · (intro w _; go_simp; try with_reducible rfl)
  simp only [Act.put, ly1, ly2, ly3, ly4, ly5, ly6]
  refine tk (i := 2) (v := ?_) rfl (Or.inl ⟨by rfl, ?_⟩) trivial ?_
  rotate_left
  · (intro w _; go_simp; try with_reducible rfl)
  simp only [Act.put, ly1, ly2, ly3, ly4, ly5, ly6]
  refine tk (i := 3) (v := ?_) rfl (Or.inl ⟨by rfl, ?_⟩) trivial ?_
  rotate_left
  · (intro w _; go_simp; try with_reducible rfl)
  simp only [Act.put, ly1, ly2, ly3, ly4, ly5, ly6]
  refine tk (i := 4) (v := ?_) rfl (Or.inl ⟨by rfl, ?_⟩) trivial ?_
  rotate_left
  · (intro w _; go_simp; try with_reducible rfl)
  simp only [Act.put, ly1, ly2, ly3, ly4, ly5, ly6]
  refine tk (i := 5) (v := ?_) rfl (Or.inl ⟨by rfl, ?_⟩) trivial ?_
  rotate_left
  · (intro w _; go_simp; try with_reducible rfl)
  simp only [Act.put, ly1, ly2, ly3, ly4, ly5, ly6]
  refine tk (i := 6) rfl (Or.inl ⟨by rfl, fun w _ => T.nilH (by rfl) (by rfl) w⟩) trivial ?_
  simp only [Act.put, ly1, ly2, ly3, ly4, ly5, ly6]
  refine tk (i := 7) (v := ?_) rfl (Or.inl ⟨by rfl, ?_⟩) trivial ?_
  rotate_left
  · (intro w _; go_simp; try with_reducible rfl)
  simp only [Act.put, ly1, ly2, ly3, ly4, ly5, ly6]
  refine wpAnyH_ready (rs := [8]) (by kernel_rfl) (by simp) ?_
  refine AllReadyH.cons rfl (fun Kq hKq => ?_) AllReadyH.nil
  refine step_enter (by rfl) (run_invH T (by rfl) (by rfl) (by rfl)) ((T.hashD w2 p2.1 b (o + 2) _ M2.I M2.lt M2.own l c (fun h => hs (FL.out h))).mono ?_)
  rintro e w3 (⟨p3, hp, rfl, hI', hC', hr'⟩ | ⟨hn, hse, hJ⟩)
  rotate_left
  · unfold Short at hse
    subst hse
    refine ⟨rfl, ?_⟩
    rw [FL.out hn]
    exact ⟨rfl, hJ⟩
  refine hKq.out _ _ trivial (fun _ => ?_)
  clear hKq Kq
  simp only [Act.put, ly1, ly2, ly3, ly4, ly5, ly6]
  refine wpAnyH_done (by kernel_rfl) ?_ _
  have M3 : Mid T w b o bs r ((([.num 1] ++ [.num 2]) ++ [.hsh])) 10 w3 p3.1 _ := M2.hsh hp l hI' hC' hr'
  clear hp hI' hC' hr' c l M2 FL
  show K _ _
  refine hKK _ _ ?_
  clear hKK K
  go_upto_region 4 with (fail)
  rename_i K hKK
  have EQ := claP_3
  obtain ⟨c, l⟩ := M3.getN (rs := [.num 1] ++ (List.replicate 16 .hsh)) (by rw [← EQ]; exact hr) (by rw [← EQ]; exact hl)
  have FL : Hid (T.stN 7 p3.1 (cel r 10) = none → T.st claP bs r = none) := fun h => by rw [EQ]; exact M3.failN (rs := [.num 1] ++ (List.replicate 16 .hsh)) h
  clear EQ
  refine wp_region_held_drew (S := fun _ => True) (by kernel_rfl) trivial (fun _ => ?_)
  refine tk (i := 0) (v := ?_) rfl (Or.inl ⟨by rfl, ?_⟩) trivial ?_
  rotate_left
  · (intro w _; go_simp; try with_reducible rfl)
  simp only [Act.put, ly1, ly3, ly4, ly5, ly6]
  refine tk (i := 1) (v := ?_) rfl (Or.inl ⟨by rfl, ?_⟩) trivial ?_
  rotate_left
  · (intro w _; go_simp; try with_reducible rfl)
  simp only [Act.put, ly1, ly2, ly3, ly4, ly5, ly6]
  refine tk (i := 2) (v := ?_) rfl (Or.inl ⟨by rfl, ?_⟩) trivial ?_
  rotate_left
  · (intro w _; go_simp; try with_reducible rfl)
  simp only [Act.put, ly1, ly2, ly3, ly4, ly5, ly6]
  refine tk (i := 3) (v := ?_) rfl (Or.inl ⟨by rfl, ?_⟩) trivial ?_
  rotate_left
  · (intro w _; go_simp; try with_reducible rfl)
  simp only [Act.put, ly1, ly2, ly3, ly4, ly5, ly6]
  refine tk (i := 4) (v := ?_) rfl (Or.inl ⟨by rfl, ?_⟩) trivial ?_
  rotate_left
  · (intro w _; go_simp; try with_reducible rfl)
  simp only [Act.put, ly1, ly2, ly3, ly4, ly5, ly6]
  refine tk (i := 5) (v := ?_) rfl (Or.inl ⟨by rfl, ?_⟩) trivial ?_
  rotate_left
  · (intro w _; go_simp; try with_reducible rfl)
  simp only [Act.put, ly1, ly2, ly3, ly4, ly5, ly6]
  refine tk (i := 6) rfl (Or.inl ⟨by rfl, fun w _ => T.nilN (by rfl) (by rfl) w⟩) trivial ?_
  simp only [Act.put, ly1, ly2, ly3, ly4, ly5, ly6]
  refine tk (i := 7) (v := ?_) rfl (Or.inl ⟨by rfl, ?_⟩) trivial ?_
  rotate_left
  · (intro w _; go_simp; try with_reducible rfl)
  simp only [Act.put, ly1, ly2, ly3, ly4, ly5, ly6]
  refine wpAnyH_ready (rs := [8]) (by kernel_rfl) (by simp) ?_
  refine AllReadyH.cons rfl (fun Kq hKq => ?_) AllReadyH.nil
  refine step_enter (by rfl) (run_invN T (by rfl) (by rfl) (by rfl) (by rfl)) ((T.numD w3 p3.1 b (o + 10) _ 7 (by decide) (by decide) M3.I M3.lt M3.own c (fun h => hs (FL.out h))).mono ?_)
  rintro e w4 (⟨p4, hp, rfl, hI', hC', hr'⟩ | ⟨hn, hse, hJ⟩)
  rotate_left
  · unfold Short at hse
    subst hse
    refine ⟨rfl, ?_⟩
    rw [FL.out hn]
    exact ⟨rfl, hJ⟩
  refine hKq.out _ _ trivial (fun _ => ?_)
  clear hKq Kq
  simp only [Act.put, ly1, ly2, ly3, ly4, ly5, ly6]
  refine wpAnyH_done (by kernel_rfl) ?_ _
  have M4 : Mid T w b o bs r (((([.num 1] ++ [.num 2]) ++ [.hsh]) ++ [.num 7])) 11 w4 p4.1 _ := M3.num hp l hI' hC' hr'
  clear hp hI' hC' hr' c l M3 FL
  show K _ _
  refine hKK _ _ ?_
  clear hKK K
  go_upto_region 5 with (fail)
  rename_i K hKK
  have EQ := claP_4
  obtain ⟨c, l⟩ := M4.getN (rs := List.replicate 16 .hsh) (by rw [← EQ]; exact hr) (by rw [← EQ]; exact hl)
  have FL : Hid (T.stN 1 p4.1 (cel r 11) = none → T.st claP bs r = none) := fun h => by rw [EQ]; exact M4.failN (rs := List.replicate 16 .hsh) h
  clear EQ
  refine wp_region_held_drew (S := fun _ => True) (by kernel_rfl) trivial (fun _ => ?_)
  refine tk (i := 0) (v := ?_) rfl (Or.inl ⟨by rfl, ?_⟩) trivial ?_
  rotate_left
  · (intro w _; go_simp; try with_reducible rfl)
  simp only [Act.put, ly1, ly3, ly4, ly5, ly6]
  refine tk (i := 1) (v := ?_) rfl (Or.inl ⟨by rfl, ?_⟩) trivial ?_
  rotate_left
  · (intro w _; go_simp; try with_reducible rfl)
  simp only [Act.put, ly1, ly2, ly3, ly4, ly5, ly6]
  refine tk (i := 2) (v := ?_) rfl (Or.inl ⟨by rfl, ?_⟩) trivial ?_
  rotate_left
  · (intro w _; go_simp; try with_reducible rfl)
  simp only [Act.put, ly1, ly2, ly3, ly4, ly5, ly6]
  refine tk (i := 3) (v := ?_) rfl (Or.inl ⟨by rfl, ?_⟩) trivial ?_
  rotate_left
  · (intro w _; go_simp; try with_reducible rfl)
  simp only [Act.put, ly1, ly2, ly3, ly4, ly5, ly6]
  refine tk (i := 4) (v := ?_) rfl (Or.inl ⟨by rfl, ?_⟩) trivial ?_
  rotate_left
  · (intro w _; go_simp; try with_reducible rfl)
  simp only [Act.put, ly1, ly2, ly3, ly4, ly5, ly6]
  refine tk (i := 5) (v := ?_) rfl (Or.inl ⟨by rfl, ?_⟩) trivial ?_
  rotate_left
  · (intro w _; go_simp; try with_reducible rfl)
  simp only [Act.put, ly1, ly2, ly3, ly4, ly5, ly6]
  refine tk (i := 6) rfl (Or.inl ⟨by rfl, fun w _ => T.nilN (by rfl) (by rfl) w⟩) trivial ?_
  simp only [Act.put, ly1, ly2, ly3, ly4, ly5, ly6]
  refine tk (i := 7) (v := ?_) rfl (Or.inl ⟨by rfl, ?_⟩) trivial ?_
  rotate_left
  · (intro w _; go_simp; try with_reducible rfl)
  simp only [Act.put, ly1, ly2, ly3, ly4, ly5, ly6]
  refine wpAnyH_ready (rs := [8]) (by kernel_rfl) (by simp) ?_
  refine AllReadyH.cons rfl (fun Kq hKq => ?_) AllReadyH.nil
  refine step_enter (by rfl) (run_invN T (by rfl) (by rfl) (by rfl) (by rfl)) ((T.numD w4 p4.1 b (o + 11) _ 1 (by decide) (by decide) M4.I M4.lt M4.own c (fun h => hs (FL.out h))).mono ?_)
  rintro e w5 (⟨p5, hp, rfl, hI', hC', hr'⟩ | ⟨hn, hse, hJ⟩)
  rotate_left
  · unfold Short at hse
    subst hse
    refine ⟨rfl, ?_⟩
    rw [FL.out hn]
    exact ⟨rfl, hJ⟩
  refine hKq.out _ _ trivial (fun _ => ?_)
  clear hKq Kq
  simp only [Act.put, ly1, ly2, ly3, ly4, ly5, ly6]
  refine wpAnyH_done (by kernel_rfl) ?_ _
  have M5 : Mid T w b o bs r ((((([.num 1] ++ [.num 2]) ++ [.hsh]) ++ [.num 7]) ++ [.num 1])) 12 w5 p5.1 _ := M4.num hp l hI' hC' hr'
  clear hp hI' hC' hr' c l M4 FL
  show K _ _
  refine hKK _ _ ?_
  clear hKK K
  have EQ := claP_5
  obtain ⟨c, l⟩ := M5.getS (qs := List.replicate 16 .hsh) (rs := []) (m := 128) (by rw [← EQ]; exact hr) (by rw [← EQ]; exact hl) (show _ = 128 from sch_rep 16)
  have FL : Hid (T.st (List.replicate 16 .hsh) p5.1 ((r.drop 12).take 128) = none → T.st claP bs r = none) := fun h => by rw [EQ]; exact M5.failS (qs := List.replicate 16 .hsh) (rs := []) (m := 128) (show _ = 128 from sch_rep 16) h
  clear EQ
  go_wp2_with fail
  refine (fHashes T w5 p5.1 b (o + 12) 16 16 _ M5.I M5.lt M5.own (l.trans (Eq.symm (show _ = 128 from sch_rep 16))) c (fun h => hs (FL.out h)) (by decide) (by decide) (by decide)).mono ?_
  intro e w6 hpost
  cases hq : T.st (List.replicate 16 .hsh) p5.1 ((r.drop 12).take 128) with
  | none =>
    rw [hq] at hpost
    obtain ⟨hse, hJ⟩ := hpost
    unfold Short at hse
    subst hse
    refine ⟨rfl, ?_⟩
    rw [FL.out hq]
    exact ⟨rfl, hJ⟩
  | some p6 =>
    rw [hq] at hpost
    obtain ⟨rfl, hI', hC', hr'⟩ := hpost
    rw [(show _ = 128 from sch_rep 16)] at hC'
    have M6 : Mid T w b o bs r (((((([.num 1] ++ [.num 2]) ++ [.hsh]) ++ [.num 7]) ++ [.num 1]) ++ List.replicate 16 .hsh)) 140 w6 p6.1 _ := M5.sub (qs := List.replicate 16 .hsh) (m := 128) hq (show _ = 128 from sch_rep 16) l hI' hC' hr'
    clear hq hI' hC' hr' c l M5 FL
    go_wp2
    go_end0
    rw [claP_e]
    exact M6.all
end Go.Proofs.YtffaddefnpkcgaaGreatDoor

