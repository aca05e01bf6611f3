/-
  slices.AppendSeq, slices.Collect at points.
-/
import Derived.Test.YtdggnmlhgglccaaU33
import Derived.Test.YtdggnmlhgglccaaU22
namespace Go.Proofs.Ytdggnmlhgglccaa
open Go.RowKit Go.Maps
set_option maxRecDepth 100000
attribute [local go_sem] Oper.semAt_some
theorem infoPt : (Try.prog.info? 38).map (fun i => (i.zero, i.size, i.bytes)) = some (some (.agg (ptV (zeros 9)).toArray), 9, 16) := by kernel_rfl
def ptsV (l : List (List Int)) : List Value := (l.map ptV).flatten
theorem ptsV_snoc (l : List (List Int)) (x : List Int) : ptsV (l ++ [x]) = ptsV l ++ ptV x := by simp [ptsV]
def vl (l : List Pt) : List (List Int) := l.map (·.1)
theorem vl_snoc (l : List Pt) (x : Pt) : vl (l ++ [x]) = vl l ++ [x.1] := by simp [vl]
attribute [local irreducible] ptV cnV zeros
section
variable {F : Fence} {n : Nat} {ops : Array Oper} {rest : List Oper} {o : Oper} {a : Act} {w : World} {Q : Exit → Act → World → Prop}
theorem wpListIn_bs1 (hgd : o.guard = none) {t e m b : Nat} {z : Value} (x : Operand) (cs : List Value) (ho : o.op = .buildSlice t 1 #[(0, x)]) (hx : a.eval x = .agg cs.toArray)
    (hu : Try.prog.underlying t = some (.slice e)) (hi : (Try.prog.info? e).map (fun i => (i.zero, i.size, i.bytes)) = some (some z, m, b)) (hl : cs.length = m) (h0 : 0 < m) (hm : m ≤ 1000)
    (h : wpListIn F n Try.prog ops Q rest (a.put o.dst (.slice (some ⟨w.heap.size, 0, none⟩) 1 1)) (w.alloc (.cells cs.toArray e))) : wpListIn F n Try.prog ops Q (o :: rest) a w := by
  refine wpListIn_plain hgd fun K hK' => ?_
  unfold Oper.wpIn
  refine ⟨?_, ?_⟩
  · simp [Oper.about, ho]
  · rw [Oper.semAt_plain F _ _ (by rw [ho]; intro c hc'; cases hc')]
    unfold execOp
    simp only [ho, List.map_toArray, List.map_cons, List.map_nil, hx, Sem.run_bind, run_bs1 hu hi hl h0 hm, Result.andThen_ok, Sem.run_pure]
    exact hK' _ _ h
end
theorem row_not {W : World} {base B n : Nat} {v : Value} {xs cs : List Value} (h : W.ownsRow base 38 9 v n xs) (hb : BL W B cs 27) (e : some B = v.ownBlock) : False := by
  rcases h.2 with ⟨e1, _⟩ | ⟨g, c, cur, e1, _, h3, _⟩
  · rw [e1] at e; cases e
  · rw [e1] at e
    cases e
    rw [show W.heap[_]? = _ from hb] at h3
    cases h3
set_option maxHeartbeats 4000000 in
theorem uAppSeq (g : Nat) (lb : Array Value) (eg : ∀ args w, (callFunc g args).run Try.prog w = .ok (.enter g args) w) (S Sp : List Pt → Prop) (N : Nat) (hN : N ≤ 100000) (w : World)
    (hseq : ∀ w', Below w.heap.size w w' → SeqStopsK Fence.wide 7 Try.prog g lb encP KeepsWalks S Sp N w') :
    Calls Try.prog 47 #[.slice none 0 0, .func (.func g) #[] lb] w fun e w' => ∃ A c xs, e = .returned (.slice A xs.length c) ∧ S xs ∧ w'.ownsRow w.heap.size 38 9 (.slice A xs.length c) xs.length (ptsV (vl xs)) ∧ Below w.heap.size w w' := by
  refine (callsIn_wide (n := 8)).1 ?_
  refine callsIn_of_wp_marks Try.func47 rfl trivial ?_ rfl
  simp only [Try.ntmps47, List.size_toArray, List.length_cons, List.length_nil, Nat.reduceAdd, Nat.reduceSub, Array.replicate_succ, Array.replicate_zero, List.push_toArray, List.append_toArray, List.nil_append, List.cons_append]
  refine wpIn_wide.2 ?_
  go_wp2
  obtain ⟨B, hB⟩ : ∃ B, w.heap.size = B := ⟨_, rfl⟩
  obtain ⟨W0, hW0⟩ : ∃ W0, w.alloc (Obj.cells #[.slice none 0 0] 27) = W0 := ⟨_, rfl⟩
  have s0 : W0.heap.size = B + 1 := by rw [← hW0, ← hB]; simp
  have b0 : Below B w W0 := by rw [← hW0, ← hB]; exact (Below.refl _ w).alloc (Nat.le_refl _) _
  have r0 : BL W0 B [.slice none 0 0] 27 := by rw [← hW0, ← hB]; exact heap_alloc_last w _
  have hq := hseq W0 (by rw [hB]; exact b0)
  rw [hW0, hB]
  clear hW0 hseq
  have hI : OwnFrom W0.heap.size (fun (pre : List Pt) W => (∃ A c, BL W B [.slice A pre.length c] 27 ∧ W.ownsRow B 38 9 (.slice A pre.length c) pre.length (ptsV (vl pre))) ∧ Below B w W ∧ B + 1 ≤ W.heap.size) := by
    rintro pre X Y row ⟨⟨A, c, h1, h2⟩, h3, h4⟩ hg hr
    have hk : ∀ q cs T, X.heap[q]? = some (Obj.cells cs T (0, 0)) → Y.heap[q]? = X.heap[q]? := fun q cs T hq => hg.block q (lt_of_block hq) fun e => by
      obtain ⟨_, o, ho, hc⟩ := hr q e.symm
      rw [hq] at ho
      cases ho
      cases hc
    refine ⟨⟨A, c, (hk B _ _ h1).trans h1, row_keepO h2 fun q hq => ?_⟩, h3.grown hg (by omega) (fun k e => by have := (hr k e).1; omega), Nat.le_trans h4 hg.size⟩
    rcases h2.2 with ⟨e, _⟩ | ⟨g', c', cur, e, _, h5, _⟩
    · rw [e] at hq; cases hq
    · rw [e] at hq
      cases hq
      exact hk _ _ _ h5
  refine (wpIn_wide (n := 8)).1 (wpIn_rangeFunc_ownH (α := Pt) rfl (by decide) (gf := g) (lb := lb) rfl trivial eg hq (fun h k => h.trans k) walksK_b (Below.refl _ _) (fun _ => rfl)
    (fun pre W => (∃ A c, BL W B [.slice A pre.length c] 27 ∧ W.ownsRow B 38 9 (.slice A pre.length c) pre.length (ptsV (vl pre))) ∧ Below B w W ∧ B + 1 ≤ W.heap.size)
    (fun _ _ _ => False) hI (fun _ _ _ _ _ hs _ _ => hs) ⟨⟨none, 0, r0, World.ownsRow_nil _ _ _ _⟩, b0, by omega⟩
    (fun x a' W => ∃ Bx, B + 1 ≤ Bx ∧ BL W Bx (ptV x.1) 38 ∧ a' = { tmps := ((.slice none 0 0 :: .func (.func g) #[] lb :: .pointer (some ⟨B, 0, none⟩) :: undef :: .slice none 0 0 :: .pointer (some ⟨Bx, 0, none⟩) :: .func (.func g) #[] lb :: .agg (ptV x.1).toArray :: undef :: undef :: undef :: undef :: undef :: ([] : List Value)).toArray), defers := [] })
    ?hAx ?assign ?body ?done ?stop)
  case hAx =>
    rintro x a' s X Y row ⟨Bx, h1, h2, e⟩ hg hr
    refine ⟨Bx, h1, (hg.block Bx (bl_lt h2) fun e => ?_).trans h2, e⟩
    obtain ⟨_, o', ho, hc⟩ := hr Bx e.symm
    rw [show X.heap[Bx]? = _ from h2] at ho
    cases ho
    cases hc
  case assign =>
    rintro l pre x W K hi hK
    have KF := Lib.hid hK
    have h9 : Hid ((ptV x.1).length = 9) := ptV_len x.2
    have HI := Lib.hid hi
    clear hK hi
    unfold encP
    simp [Array.zip, Array.foldl]
    gi_wp2_with (first
      | (refine wpListIn_allocT rfl 38 _ z38 rfl ?_)
      | (refine wpListIn_storeT rfl 38 (.tmp 5) (.tmp 7) rfl W.heap.size (ptV x.1).toArray rfl rfl 38 _ (heap_alloc_last _ _) (szA i38 h9.out) (by rw [List.size_toArray, List.size_toArray, ptV9, h9.out]) (all_oneCell_toArray (pt_one _)) ?_)
      | fail)
    have hb1 : Below W.heap.size W ((W.alloc (Obj.cells (ptV (zeros 9)).toArray 38)).setRow W.heap.size (ptV x.1).toArray) := below_setRow ((Below.refl _ W).alloc (Nat.le_refl _) _) (Nat.le_refl _) _
    refine KF.out _ _ (keeps_below hb1) ⟨hb1.size, fun k o hk _ => (hb1.block k (lt_of_block hk)).trans hk⟩ ?_ ⟨W.heap.size, HI.out.2.2, setRow_heap _ _ _ _ _ _ (heap_alloc_last _ _), by simp [Act.put, ptA]⟩
    exact hI pre W _ none HI.out ⟨hb1.os, hb1.tape, hb1.output, hb1.size, fun k hk _ => hb1.block k hk⟩ (fun r e => (by cases e))
  case body =>
    rintro l pre x a' W hl1 hl2 ⟨⟨A, c, h1, h2⟩, h3, h4⟩ ⟨Bx, hBx, bX, rfl⟩ hlt
    have RX := Lib.hid (range_of bX)
    have h9 : Hid ((ptV x.1).length = 9) := ptV_len x.2
    have c0 := bl_c0 h1
    have RW := Lib.hid h2
    have HB1 := Lib.hid h1
    have HB3 := Lib.hid h3
    have HS := Lib.hid h4
    have HLT := Lib.hid hlt
    obtain ⟨i0, hi, hz0, hz1, hz2⟩ := info_parts infoPt
    have KI := Lib.hid (And.intro hi (And.intro hz0 (And.intro hz1 hz2)))
    have N9 : Hid ((Value.agg (ptV (zeros 9)).toArray).cells.size = 9) := Lib.hid (by simp [Value.cells, ptV9])
    clear hi hz0 hz1 hz2 h1 h2 h3 h4 hlt bX hl1 hl2
    gi_wp2_with (first
      | (refine wpListIn_load_midG rfl 38 (.tmp 5) rfl Bx 0 rfl (ptV x.1) _ RX.out Try.underlying38 rfl (szL i38 h9.out) ?_)
      | (refine wpListIn_bs1 rfl (.tmp 9) (ptV x.1) rfl rfl Try.underlying27 infoPt h9.out (by decide) (by decide) ?_)
      | (gi_at_builtin; refine wpListIn_append_own (W.alloc (Obj.cells (ptV x.1).toArray 38)) rfl (.tmp 8) (.tmp 10) 27 rfl B 38 i0 _ 9 16 Try.underlying27 KI.out.1 KI.out.2.1 KI.out.2.2.1 KI.out.2.2.2 N9.out (by decide) (.slice A pre.length c) pre.length _ rfl (row_keepO RW.out fun q hq => Below.heap_alloc _ _ _ (own_blk RW.out hq).2) ⟨W.heap.size, 0, none⟩ 1 1 (ptV x.1) rfl h9.out (fun j u hj => by rw [Addr.add_mid]; exact range_of (heap_alloc_last W _) j u hj) (pt_one _) (by have := HLT.out; unfold maxLen; omega) (by have := HLT.out; omega) (by have := HS.out; rw [World.size_alloc]; omega) ?_
         intro v' w3 hown' hg3 _
         obtain ⟨A3, c3, rfl⟩ := own_sl hown'
         have O3 := Lib.hid hown'
         have G3 := Lib.hid hg3
         have HB3' : Hid (BL w3 B [.slice A pre.length c] 27) := Lib.hid ((hg3.block B (by have := HS.out; rw [World.size_alloc]; omega) (fun e => row_not RW.out HB1.out e)).trans ((Below.heap_alloc _ _ _ (by have := HS.out; omega)).trans HB1.out))
         have cB := bl_c0 HB3'.out
         have fB := bl_free HB3'.out 0
         clear hown' hg3)
      | fail)
    have hnb : ∀ (k : Nat) (o : Obj), W.heap[k]? = some o → o.isCells = false → some k ≠ (Value.slice A pre.length c).ownBlock ∧ k ≠ B := fun k o hk ho => by
      refine ⟨fun e => ?_, fun e => ?_⟩
      · rcases RW.out.2 with ⟨e1, _⟩ | ⟨g', c', cur, e1, _, h5, _⟩
        · rw [e1] at e; cases e
        · rw [e1] at e
          cases e
          rw [h5] at hk
          cases hk
          cases ho
      · rw [e, show W.heap[B]? = _ from HB1.out] at hk
        cases hk
        cases ho
    have hnc : ∀ (k : Nat) (o : Obj), W.heap[k]? = some o → o.isCells = false → (w3.setCell ⟨B, 0, none⟩ (.slice A3 (pre.length + 1) c3)).heap[k]? = some o := fun k o hk ho => by
      obtain ⟨n1, n2⟩ := hnb k o hk ho
      have := lt_of_block hk
      exact (heap_set1 _ _ _ n2).trans ((G3.out.block k (by rw [World.size_alloc]; omega) n1).trans ((Below.heap_alloc _ _ _ this).trans hk))
    have hsz : W.heap.size + 1 ≤ (w3.setCell ⟨B, 0, none⟩ (.slice A3 (pre.length + 1) c3)).heap.size := by
      have := G3.out.size
      rw [World.size_alloc] at this
      rw [World.size_setCell]
      exact this
    refine ⟨⟨by omega, fun k o _ hk ho => hnc k o hk ho⟩, ⟨by omega, fun k o hk ho => hnc k o hk (Obj.not_cells_of_walk ho)⟩, ⟨A3, c3, ?_, ?_⟩, ?_, by have := HS.out; omega⟩
    · have := bl_set HB3'.out 0 (.slice A3 (pre.length + 1) c3)
      rw [List.length_append]
      exact this
    · rw [vl_snoc, ptsV_snoc, List.length_append]
      exact row_keepO O3.out fun q hq => heap_set1 _ _ _ fun e => row_not O3.out HB3'.out (e ▸ hq.symm)
    · have hb4 : Below B W w3 := by
        have h5 := HS.out
        refine ⟨G3.out.os, G3.out.tape, G3.out.output, by have := G3.out.size; rw [World.size_alloc] at this; omega, fun q hq => (G3.out.block q (by rw [World.size_alloc]; omega) fun e => ?_).trans (Below.heap_alloc _ _ _ (by omega))⟩
        have := (own_blk RW.out e.symm).1
        omega
      exact HB3.out.trans (hb4.setCell (p := ⟨B, 0, none⟩) (Nat.le_refl _) _)
  case done =>
    rintro D ys W hD hS ⟨⟨A, c, h1, h2⟩, h3, h4⟩ hK
    have c0 := bl_c0 h1
    go_wp2
    refine ⟨by simp, .inl ⟨_, _, rfl, run_takeDeferred hK, ?_⟩⟩
    refine ⟨_, results_tmp rfl _ _ _, A, c, ys, rfl, hS, row_keepO (hB ▸ h2) fun q hq => World.putObj_heap_other fun e => ?_, ?_⟩
    · rcases h2.2 with ⟨e1, _⟩ | ⟨g', c', cur, e1, _, h5, _⟩
      · rw [e1] at hq; cases hq
      · rw [e1] at hq
        cases hq
        have e : g' = D := e
        rw [e, hK] at h5
        cases h5
    · rw [hB]
      exact h3.trans (belowK_b (w := w) (by omega) W D _ _ (by omega) hK rfl rfl)
  case stop =>
    rintro D c' pre W _ _ h _
    exact h.elim
set_option maxHeartbeats 4000000 in
theorem uCollect (g : Nat) (lb : Array Value) (eg : ∀ args w, (callFunc g args).run Try.prog w = .ok (.enter g args) w) (S Sp : List Pt → Prop) (N : Nat) (hN : N ≤ 100000) (w : World)
    (hseq : ∀ w', Below w.heap.size w w' → SeqStopsK Fence.wide 7 Try.prog g lb encP KeepsWalks S Sp N w') :
    Calls Try.prog 41 #[.func (.func g) #[] lb] w fun e w' => ∃ A c xs, e = .returned (.slice A xs.length c) ∧ S xs ∧ w'.ownsRow w.heap.size 38 9 (.slice A xs.length c) xs.length (ptsV (vl xs)) ∧ Below w.heap.size w w' := by
  have CA := Lib.hid (uAppSeq g lb eg S Sp N hN w hseq)
  clear hseq
  go_enter Try.func41, Try.ntmps41
  go_wp2_with (first
    | (go_at_call 47; refine CA.out.mono ?_; rintro e w1 ⟨A, c, xs, rfl, g1, g2, g3⟩; have G := Lib.hid (And.intro g1 (And.intro g2 g3)); clear g1 g2 g3)
    | fail)
  go_ret
  exact ⟨A, c, xs, rfl, G.out⟩
end Go.Proofs.Ytdggnmlhgglccaa
