/-
  slices.SortedFunc at points, Points.
-/
import Derived.Test.YtdggnmlhgglccaaU34
import Derived.Test.YtdggnmlhgglccaaU35
import Derived.Test.YtdggnmlhgglccaaU35c
import Derived.Shelf.SlSortCmp.NoneTotal
namespace Go.Proofs.Ytdggnmlhgglccaa
open Go.RowKit Go.Shelf Go.Sort
set_option maxRecDepth 100000
def laysSort_ren : Go.Shelf.Ren := ⟨fun | 6 => 42 | 15 => 49 | 14 => 48 | 28 => 60 | 29 => 61 | 20 => 52 | 21 => 53 | 22 => 54 | 23 => 55 | 24 => 56 | 25 => 57 | 26 => 58 | 27 => 59 | 46 => 63 | 47 => 64 | 48 => 65 | 49 => 66 | 50 => 67 | 57 => 68 | n => n, fun | 22 => 27 | 24 => 38 | 25 => 86 | 3 => 3 | 39 => 99 | 0 => 0 | 53 => 109 | 55 => 111 | 4 => 4 | 46 => 103 | 45 => 102 | 50 => 71 | 5 => 5 | 9 => 9 | 66 => 112 | 70 => 116 | 76 => 118 | 77 => 119 | n => n, fun n => n⟩
theorem laysSort : Go.Proofs.SlLaysF0.n6 Try.prog laysSort_ren := {
  mixed := by kernel_rfl
  f6 := ⟨"slices.SortFunc[[]drawbridge/api.Point,drawbridge/api.Point]", by kernel_rfl, Try.func42.trans (congrArg some (by kernel_rfl))⟩
  f14 := ⟨"slices.pdqsortCmpFunc[drawbridge/api.Point]", by kernel_rfl, Try.func48.trans (congrArg some (by kernel_rfl))⟩
  f15 := Try.func49.trans (congrArg some (by kernel_rfl))
  f20 := ⟨"slices.insertionSortCmpFunc[drawbridge/api.Point]", by kernel_rfl, Try.func52.trans (congrArg some (by kernel_rfl))⟩
  f21 := ⟨"slices.heapSortCmpFunc[drawbridge/api.Point]", by kernel_rfl, Try.func53.trans (congrArg some (by kernel_rfl))⟩
  f22 := ⟨"slices.breakPatternsCmpFunc[drawbridge/api.Point]", by kernel_rfl, Try.func54.trans (congrArg some (by kernel_rfl))⟩
  f23 := ⟨"slices.choosePivotCmpFunc[drawbridge/api.Point]", by kernel_rfl, Try.func55.trans (congrArg some (by kernel_rfl))⟩
  f24 := ⟨"slices.reverseRangeCmpFunc[drawbridge/api.Point]", by kernel_rfl, Try.func56.trans (congrArg some (by kernel_rfl))⟩
  f25 := ⟨"slices.partialInsertionSortCmpFunc[drawbridge/api.Point]", by kernel_rfl, Try.func57.trans (congrArg some (by kernel_rfl))⟩
  f26 := ⟨"slices.partitionEqualCmpFunc[drawbridge/api.Point]", by kernel_rfl, Try.func58.trans (congrArg some (by kernel_rfl))⟩
  f27 := ⟨"slices.partitionCmpFunc[drawbridge/api.Point]", by kernel_rfl, Try.func59.trans (congrArg some (by kernel_rfl))⟩
  f28 := Try.func60.trans (congrArg some (by kernel_rfl))
  f29 := Try.func61.trans (congrArg some (by kernel_rfl))
  f46 := ⟨"slices.siftDownCmpFunc[drawbridge/api.Point]", by kernel_rfl, Try.func63.trans (congrArg some (by kernel_rfl))⟩
  f47 := Try.func64.trans (congrArg some (by kernel_rfl))
  f48 := Try.func65.trans (congrArg some (by kernel_rfl))
  f49 := ⟨"slices.medianAdjacentCmpFunc[drawbridge/api.Point]", by kernel_rfl, Try.func66.trans (congrArg some (by kernel_rfl))⟩
  f50 := ⟨"slices.medianCmpFunc[drawbridge/api.Point]", by kernel_rfl, Try.func67.trans (congrArg some (by kernel_rfl))⟩
  f57 := ⟨"slices.order2CmpFunc[drawbridge/api.Point]", by kernel_rfl, Try.func68.trans (congrArg some (by kernel_rfl))⟩
  t0 := Try.underlying0
  a0 := Try.isAgg0
  z0 := Try.sizeOf0
  v0 := Try.zeroValue0
  t3 := Try.underlying3
  a3 := Try.isAgg3
  z3 := Try.sizeOf3
  v3 := Try.zeroValue3
  t4 := Try.underlying4
  a4 := Try.isAgg4
  z4 := Try.sizeOf4
  v4 := Try.zeroValue4
  t5 := Try.underlying5
  a5 := Try.isAgg5
  z5 := Try.sizeOf5
  v5 := Try.zeroValue5
  t9 := Try.underlying9
  a9 := Try.isAgg9
  z9 := Try.sizeOf9
  v9 := Try.zeroValue9
  t22 := Try.underlying27
  a22 := Try.isAgg27
  z22 := Try.sizeOf27
  v22 := Try.zeroValue27
  t25 := Try.underlying86
  a25 := Try.isAgg86
  z25 := Try.sizeOf86
  v25 := Try.zeroValue86
  t39 := Try.underlying99
  a39 := Try.isAgg99
  z39 := Try.sizeOf99
  v39 := Try.zeroValue99
  t45 := Try.underlying102
  a45 := Try.isAgg102
  z45 := Try.sizeOf102
  v45 := Try.zeroValue102
  t46 := Try.underlying103
  a46 := Try.isAgg103
  z46 := Try.sizeOf103
  v46 := Try.zeroValue103
  t50 := Try.underlying71
  a50 := Try.isAgg71
  z50 := Try.sizeOf71
  v50 := Try.zeroValue71
  t53 := Try.underlying109
  a53 := Try.isAgg109
  z53 := Try.sizeOf109
  v53 := Try.zeroValue109
  t55 := Try.underlying111
  a55 := Try.isAgg111
  z55 := Try.sizeOf111
  v55 := Try.zeroValue111
  t66 := Try.underlying112
  a66 := Try.isAgg112
  z66 := Try.sizeOf112
  v66 := Try.zeroValue112
  t70 := Try.underlying116
  a70 := Try.isAgg116
  z70 := Try.sizeOf116
  v70 := Try.zeroValue116
  t76 := Try.underlying118
  a76 := Try.isAgg118
  z76 := Try.sizeOf118
  v76 := Try.zeroValue118
  t77 := Try.underlying119
  a77 := Try.isAgg119
  z77 := Try.sizeOf119
  v77 := Try.zeroValue119 }
instance : Inhabited Pt := ⟨⟨zeros 9, stD_okP⟩⟩
def enP (x : Pt) : List Value := ptV x.1
theorem enP_len (x : Pt) : (enP x).length = 9 := ptV_len x.2
theorem enP_one (x : Pt) : ∀ v ∈ enP x, v.oneCell' = true := pt_one x.1
def cfP (x y : Pt) : Int := cmpP x.1 y.1
theorem lt_cfP (x y : Pt) : ltOf cfP x y = lessP x.1 y.1 := cmpP_neg x.2 y.2
theorem swo_cfP : SWO (ltOf cfP) := by
  refine ⟨fun x => by rw [lt_cfP, lessP_irr], fun x y z h1 h2 => ?_, fun x y z h1 h2 => ?_⟩
  · rw [lt_cfP] at *
    exact lessP_trans h1 h2
  · rw [lt_cfP] at *
    cases e : lessP x.1 z.1 with
    | false => rfl
    | true =>
      cases e2 : lessP y.1 x.1 with
      | true => have := lessP_trans e2 e; rw [h2] at this; cases this
      | false =>
        have := lessP_tot x.2 y.2 h1 e2
        rw [this, h2] at e
        cases e
theorem ptsV_len (l : List Pt) : (ptsV (vl l)).length = 9 * l.length := by
  induction l with
  | nil => rfl
  | cons x l ih =>
    show (ptV x.1 ++ ptsV (vl l)).length = _
    rw [List.length_append, ih, ptV_len x.2, List.length_cons]
    omega
theorem pts_get : ∀ (l : List Pt) (j : Nat), j < 9 * l.length → (ptsV (vl l))[j]? = some ((enP l.toArray[j / 9]!)[j % 9]!)
  | [], j, h => by simp at h
  | x :: l, j, h => by
    show (ptV x.1 ++ ptsV (vl l))[j]? = _
    by_cases hj : j < 9
    · rw [List.getElem?_append_left (by rw [ptV_len x.2]; exact hj), Nat.div_eq_of_lt hj, Nat.mod_eq_of_lt hj]
      rw [List.getElem?_eq_getElem (by rw [ptV_len x.2]; exact hj)]
      show _ = some ((enP x)[j]!)
      rw [getElem!_pos _ _ (by rw [enP_len]; exact hj)]
      rfl
    · have e1 : j / 9 = (j - 9) / 9 + 1 := by omega
      have e2 : j % 9 = (j - 9) % 9 := by omega
      have h2 : j - 9 < 9 * l.length := by simp only [List.length_cons] at h; omega
      rw [List.getElem?_append_right (by rw [ptV_len x.2]; omega), ptV_len x.2, pts_get l (j - 9) h2, e1, e2]
      congr 3
      have h3 : (j - 9) / 9 < l.length := by omega
      rw [getElem!_pos _ _ (by simpa using h3), getElem!_pos _ _ (by simp; omega)]
      simp
theorem row_holds {w : World} {base g cap : Nat} {l : List Pt} (h : w.ownsRow base 38 9 (.slice (some ⟨g, 0, none⟩) l.length cap) l.length (ptsV (vl l))) : HoldsK enP 9 w g 0 l.toArray := by
  intro j hj
  have hj' : j < 9 * l.length := by simp at hj; omega
  rcases h.2 with ⟨e, _⟩ | ⟨g', c, cur, e, _, hg, hc1, hc2, hs, ht⟩
  · cases e
  · cases e
    refine ⟨?_, by simp [World.frozen?, hg]⟩
    rw [cell_of_row w g (0 + j) _ 38 (0, 0) hg, Nat.zero_add, get_flatK enP 9 l.toArray j (by simp; omega), ← Array.getElem?_toList]
    have e2 : (cur.toList.take (l.length * 9))[j]? = (ptsV (vl l))[j]? := by rw [ht]
    rw [List.getElem?_take, if_pos (by omega), pts_get l j hj'] at e2
    exact e2
theorem holds_row {w : World} {g : Nat} {d : Array Pt} (hg : g < w.heap.size) (h : HoldsK enP 9 w g 0 d) : PRow w (some ⟨g, 0, none⟩) (vl d.toList) := by
  refine .inr ⟨g, rfl, hg, fun i hi => ?_⟩
  have hi : i < d.size := by simpa [vl] using hi
  intro j v hv
  have e0 : (vl d.toList).getD i [] = d[i].1 := by simp [vl, List.getD, hi]
  rw [e0] at hv
  have hj : j < 9 := by have := (List.getElem?_eq_some_iff.1 hv).1; rwa [ptV_len d[i].2] at this
  have := (h (i * 9 + j) (by simp; omega)).1
  rw [Nat.zero_add, get_flatK enP 9 d _ (by omega), show (i * 9 + j) / 9 = i by omega, show (i * 9 + j) % 9 = j by omega, getElem!_pos d i hi] at this
  rw [this]
  have e3 : (ptV d[i].1)[j]? = some ((enP d[i])[j]!) := by
    rw [getElem!_pos _ _ (by rw [enP_len]; exact hj)]
    exact List.getElem?_eq_getElem (by rw [ptV_len d[i].2]; exact hj)
  rw [e3] at hv
  exact hv
theorem sortW_below {w : World} {g n : Nat} {d : Array Pt} {os : Array Obj} {base : Nat} (hg : base ≤ g) (hb : base ≤ w.heap.size) : Below base w (sortWorldK enP 9 w g 0 n d os) := by
  refine ⟨rfl, rfl, rfl, by unfold sortWorldK; simp [grow, putRowK, putRow, mapBlock, Sort.ahead], fun k hk => ?_⟩
  unfold sortWorldK
  simp only [grow]
  rw [Array.getElem?_append_left (by rw [size_putRowK]; show k < w.heap.size; omega)]
  simp [putRowK, putRow, mapBlock, Sort.ahead, Array.getElem?_modify, show g ≠ k by omega]
/-- slices.SortFunc over a row of points of the call's own -/
theorem uSortF (base : Nat) (A : Option Addr) (cap : Nat) (l : List Pt) (w : World) (hn : l.length ≤ 100000) (hb : base ≤ w.heap.size) (h : w.ownsRow base 38 9 (.slice A l.length cap) l.length (ptsV (vl l))) :
    Calls Try.prog 42 #[.slice A l.length cap, .func (.func 36) #[] #[]] w fun e w' => e = .returned (.tuple #[]) ∧ ∃ d : List Pt, d.Perm l ∧ (∀ i j, i < j → j < d.length → lessP ((vl d).getD j []) ((vl d).getD i []) = false) ∧ PRow w' A (vl d) ∧ Below base w w' := by
  rcases h.2 with ⟨e, h0⟩ | ⟨g, c, cur, e, hbg, hg, _⟩
  · have hl : l = [] := List.length_eq_zero_iff.1 h0
    subst hl
    injection e with e1 e2 e3
    subst e1 e3
    refine (AnyF.slices_SortFunc_none laysSort none 0 _ w).mono ?_
    rintro e w' ⟨rfl, rfl⟩
    exact ⟨rfl, [], List.Perm.refl _, fun i j h1 h2 => by simp at h2, .inl rfl, Below.refl _ _⟩
  · injection e with e1 e2 e3
    subst e1 e3
    have hgl := lt_of_block hg
    have C := AnyQ.slices_SortFunc laysSort 9 Try.isAgg38 Try.sizeOf38 enP enP_len enP_one cfP swo_cfP 36 #[] g 0 cap l.toArray w (enters_of Try.func36 (by kernel_rfl) rfl) (fun m os dk _ x y => uOrder x.1 y.1 _ x.2 y.2) (row_holds h) hgl (by simp; omega)
    rw [List.size_toArray] at C
    refine C.mono ?_
    rintro e w' ⟨rfl, d', n, os, ⟨p1, _, p3⟩, so, rfl⟩
    simp only [List.size_toArray] at p1
    have hsz : d'.toList.length = l.length := by simpa using p1
    refine ⟨rfl, d'.toList, ?_, fun i j hij hj => ?_, ?_, sortW_below hbg hb⟩
    · have e1 : (d'.extract 0 l.length).toList = d'.toList := by rw [← p1]; simp
      have e2 : (l.toArray.extract 0 l.length).toList = l := by simp
      rwa [e1, e2] at p3
    · have hj' : j < d'.size := by simpa [vl] using hj
      have := so i j (Nat.zero_le _) hij (by omega)
      rw [lt_cfP, getElem!_pos d' i (by omega), getElem!_pos d' j hj'] at this
      have e1 : ∀ k (hk : k < d'.size), (vl d'.toList).getD k [] = d'[k].1 := fun k hk => by simp [vl, List.getD, hk]
      rw [e1 i (by omega), e1 j hj']
      exact this
    · exact holds_row (lt_sortWorldK enP 9 w g 0 n d' os hgl) (holdsK_sortWorldK enP 9 w g 0 n l.toArray d' os hgl (row_holds h) (by simpa using p1))
end Go.Proofs.Ytdggnmlhgglccaa
