/-
  put.
-/
import Derived.Test.YtdggnmlhgglccaaU5
import Derived.WalkSpells
import Derived.Carry
namespace Go.Proofs.Ytdggnmlhgglccaa
open Go.RowKit Go.Maps
set_option maxRecDepth 100000
/-- L turns into M when c comes to p -/
structure Comes (L M : List Stp) (p : List Int) (c : Cn) : Prop where
  hp : okP p
  hc : c.ok
  no : setF L p = none
  F : setF M = updC (setF L) p (some c)
  T : setT M = setT L + amt c
  N : setN M = setN L + 1
  ok : okS M
  len : L.length ≤ 100000
theorem step_mput {w : World} {ops : Array Oper} {o : Oper} {a : Act} {K : Act → World → Prop} {Q : Exit → Act → World → Prop} {E : Prop} (hgd : o.guard = none) (m x v : Operand) (hop : o.op = Op.mapUpdate 67 m x v)
    (b n : Nat) (F : List Int → Option Cn) (p : List Int) (c : Cn) (hm : a.eval m = .map (some b)) (hx : a.eval x = .agg (ptV p).toArray) (hv : a.eval v = .agg (cnV c).toArray) (h : MapC w b n F) (hn : n < maxLen) (hp : okP p) (hF : F p = none) (hc : c.r.length = 10)
    (hK : ∀ w', MapC w' b (n + 1) (updC F p (some c)) → w.mapTurned w' b → K (a.put o.dst undef) w') : if Region.wanted o (yielded ops a.tmps) = true then Oper.wp Try.prog o a w K Q else E := by
  have hw : Region.wanted o (yielded ops a.tmps) = true := by simp [Region.wanted, hgd]
  rw [if_pos hw]
  obtain ⟨w', hrun, r1, r2⟩ := h.put hn hp hF hc
  have hrun : (Instr.mapUpdate 67 (.map (some b)) (.agg (ptV p).toArray) (.agg (cnV c).toArray)).run Try.prog w = .ok () w' := hrun
  unfold Oper.wp
  simp [execOp, hop, hm, hx, hv, hrun, Result.andThen]
  exact hK w' r1 r2
theorem turned_fr {w w' : World} {b : Nat} (h : w.mapTurned w' b) : w'.os = w.os ∧ w'.tape = w.tape ∧ w'.output = w.output ∧ w'.heap.size = w.heap.size ∧ ∀ q, q ≠ b → w'.heap[q]? = w.heap[q]? := by
  obtain ⟨es, k, es', k', hb, rfl⟩ := h
  refine ⟨rfl, rfl, rfl, by simp [ChangeMaps.setBlock], fun q hq => ?_⟩
  simp [ChangeMaps.setBlock, Ne.symm hq]
/-- the Set behind a put: nothing is said of what is not the map's or the total's -/
theorem put_done {w : World} {S : Nat} {L M R : List Stp} {P : Nat → Prop} {p : List Int} {c : Cn} {b : Nat} {A : Option Addr} {k : Nat} (h : Comes L M p c) (hs : SetAt w S L R P (some b) A k) {w2 w3 : World} (hb : ∀ q, P q → q ≠ b → w2.heap[q]? = w.heap[q]?)
    (hm : MapC w2 b (setN L + 1) (updC (setF L) p (some c))) (h2 : w.heap.size ≤ w2.heap.size) (hw : w3 = w2.setCell ⟨S, 1, none⟩ (.int .i64 (setT L + amt c))) : SetAt w3 S M R P (some b) A k := by
  subst hw
  have hSb : S ≠ b := by
    rintro rfl
    obtain ⟨D, ⟨es, clock, h1, _⟩, _⟩ := hs.map.1
    have h3 := hs.blk
    unfold BL at h3
    rw [h1] at h3
    cases h3
  have ho : ∀ q, q ≠ S → (w2.setCell ⟨S, 1, none⟩ (.int .i64 (setT L + amt c))).heap[q]? = w2.heap[q]? := fun q hq => heap_set1 _ _ _ hq
  refine ⟨?_, ⟨?_, hs.map.2⟩, ?_, hs.rowP, h.ok, hs.inS, fun q hq => Nat.lt_of_lt_of_le (hs.lt q hq) (by simpa using h2)⟩
  · have := bl_set (bl_keep hs.blk (hb S hs.inS hSb)) 1 (.int .i64 (setT L + amt c))
    rw [h.T]
    exact this
  · rw [h.F, h.N]
    exact hm.keep (ho b (Ne.symm hSb))
  · refine ⟨hs.row.1, ?_⟩
    rcases hs.row.2 with g | ⟨g, cap, cur, e1, h1, h3, h4⟩
    · exact .inl g
    · have hgP := hs.rowP g (by rw [e1]; rfl)
      have hgb : g ≠ b := by
        rintro rfl
        obtain ⟨D, ⟨es, clock, h5, _⟩, _⟩ := hs.map.1
        rw [h5] at h3
        cases h3
      have hgS : g ≠ S := by
        rintro rfl
        have h5 := hs.blk
        unfold BL at h5
        rw [h3] at h5
        have := (Obj.cells.inj (Option.some.inj h5)).2.1
        revert this
        decide
      exact .inr ⟨g, cap, cur, e1, h1, by rw [ho g hgS, hb g hgP hgb]; exact h3, h4⟩
theorem map_ne {w : World} {b n q : Nat} {F : List Int → Option Cn} {cs : List Value} {T : TypeId} (h : MapC w b n F) (g : BL w q cs T) : q ≠ b := by
  rintro rfl
  obtain ⟨D, ⟨es, clock, h1, _⟩, _⟩ := h
  unfold BL at g
  rw [h1] at g
  cases g
theorem ne_map {w v : World} {b n q : Nat} {F : List Int → Option Cn} {cs : List Value} {T : TypeId} {N : Nat} (g : BL v q cs T) (h : MapC w b n F) (hb : Below N w v) (hN : w.heap.size = N) : q ≠ b := map_ne (h.keep (hb.block b (by rw [← hN]; exact h.lt))) g
theorem row_ne {w : World} {S g : Nat} {cs : List Value} {cur : Array Value} (h : BL w S cs 70) (h3 : w.heap[g]? = some (.cells cur 75 (0, 0))) : g ≠ S := by
  rintro rfl
  unfold BL at h
  rw [h3] at h
  have := (Obj.cells.inj (Option.some.inj h)).2.1
  revert this
  decide
theorem set_ne {w : World} {S : Nat} {L R : List Stp} {P : Nat → Prop} {b : Nat} {A : Option Addr} {k : Nat} (h : SetAt w S L R P (some b) A k) : S ≠ b := map_ne h.map.1 h.blk
attribute [local irreducible] ptV cnV zeros MapC
set_option maxHeartbeats 4000000 in
theorem uPutX (S : Nat) (L M R : List Stp) (P : Nat → Prop) (p : List Int) (c : Cn) (w : World) (h : Set2 w S L R P) (hk : Comes L M p c) (hL : okS L) :
    Calls Try.prog 28 #[.pointer (some ⟨S, 0, none⟩), .agg (ptV p).toArray, .agg (cnV c).toArray] w fun e w' => e = .returned (.tuple #[]) ∧ ∃ P', Set2 w' S M R P' ∧ (∀ q, P' q → P q ∨ (L = [] ∧ w.heap.size ≤ q)) ∧ Fr w w' P := by
  obtain ⟨N, hN⟩ : ∃ N, w.heap.size = N := ⟨_, rfl⟩
  have HN := Lib.hid hN
  have HP := Lib.hid hk.hp
  have HC := Lib.hid hk.hc
  have HK := Lib.hid hk
  obtain ⟨v, hv⟩ : ∃ v, ((w.alloc (Obj.cells (ptV p).toArray 38)).alloc (Obj.cells (cnV c).toArray 47)) = v := ⟨_, rfl⟩
  have RP : Hid (BL v N (ptV p) 38) := by
    subst hv hN
    exact bl_keep (heap_alloc_last w _) (Below.heap_alloc _ _ _ (by simp))
  have RC : Hid (BL v (N + 1) (cnV c) 47) := by
    subst hv hN
    have := heap_alloc_last (w.alloc (Obj.cells (ptV p).toArray 38)) (Obj.cells (cnV c).toArray 47)
    rw [World.size_alloc] at this
    exact this
  have BV : Hid (Below N w v) := by subst hv hN; exact ((Below.refl _ w).alloc (Nat.le_refl _) _).alloc (by simp) _
  have VS : Hid (v.heap.size = N + 2) := by subst hv hN; show _ = _; rw [World.size_alloc, World.size_alloc]
  have T0 : Hid (0 ≤ setT L ∧ setT L ≤ 1125899906842624) := ⟨(inv_of hL).nn, (inv_of hL).mx⟩
  have T1 : Hid (0 ≤ setT L + amt c ∧ setT L + amt c ≤ 1125899906842624) := by
    show _ ∧ _
    rw [← hk.T]
    exact ⟨(inv_of hk.ok).nn, (inv_of hk.ok).mx⟩
  have NL : Hid (setN L < maxLen) := by show _ < _; have := setN_le L; have := hk.len; unfold maxLen; omega
  have qT : ∀ (w : World) (r : Option Nat), (binOp .eql 67 (.map r) (.map none)).run Try.prog w = .ok (.bool r.isNone) w := fun w r => run_eql_map_nil w _ _ _ r Try.underlying67
  obtain ⟨m, A, k, h⟩ := h
  have HW := Lib.hid h
  have HV : Hid (SetAt v S L R P m A k) := Lib.hid (h.keep (fun q hq => BV.out.block q (by rw [← hN]; exact h.lt q hq)) BV.out.size)
  have c0 : v.cell? ⟨S, 0, none⟩ = some (.map m) := HV.out.c0
  have hmp := h.map
  have HSP := Lib.hid h.inS
  clear h hk hL
  cases m with
  | none =>
    have hmp : L = [] := hmp
    have c00 := HV.out.c0
    obtain ⟨b, hb⟩ : ∃ b, v.heap.size = b := ⟨_, rfl⟩
    have HB := Lib.hid hb
    have mk := fun w => run_makeMap (P := Try.prog) 67 w
    have KA : Hid (∀ q, q < b → (v.alloc (.map #[] 0)).heap[q]? = v.heap[q]?) := fun q hq => Below.heap_alloc v _ q (by rw [HB.out]; exact hq)
    have SB : Hid (S < b) := by show _ < _; rw [← hb]; exact HV.out.lt S HV.out.inS
    have cA : (v.alloc (.map #[] 0)).cell? ⟨S, 0, none⟩ = some (.map none) := (World.cell?_of_block (w := v) (a := ⟨S, 0, none⟩) (KA.out S SB.out)).trans HV.out.c0
    have fA : (v.alloc (.map #[] 0)).frozen? ⟨S, 0, none⟩ = false := bl_free (bl_keep HV.out.blk (KA.out S SB.out)) 0
    have HW2 : Hid (SetAt ((v.alloc (.map #[] 0)).setCell ⟨S, 0, none⟩ (.map (some b))) S L R (fun q => P q ∨ q = b) (some b) A k) := by
      have hz : (v.alloc (.map #[] 0)).heap.size = b + 1 := by rw [World.size_alloc, hb]
      have ho : ∀ q, q ≠ S → q < b → ((v.alloc (.map #[] 0)).setCell ⟨S, 0, none⟩ (.map (some b))).heap[q]? = v.heap[q]? := fun q h1 h2 => (heap_set1 _ _ _ h1).trans (KA.out q h2)
      refine ⟨bl_set (bl_keep HV.out.blk (KA.out S SB.out)) 0 (.map (some b)), ⟨?_, .inr rfl⟩, ⟨HV.out.row.1, ?_⟩, fun q hq => .inl (HV.out.rowP q hq), HV.out.ok, .inl HV.out.inS, fun q hq => ?_⟩
      · rw [hmp]
        have h1 := MapC_made v
        rw [hb] at h1
        exact h1.keep (heap_set1 _ _ _ (by have := SB.out; omega))
      · rcases HV.out.row.2 with g | ⟨g, cap, cur, e1, h1, h3, h4⟩
        · exact .inl g
        · have hgP := HV.out.rowP g (by rw [e1]; rfl)
          have hgS : g ≠ S := row_ne HV.out.blk h3
          exact .inr ⟨g, cap, cur, e1, h1, by rw [ho g hgS (by rw [← hb]; exact HV.out.lt g hgP)]; exact h3, h4⟩
      · rw [World.size_setCell, hz]
        rcases hq with hq | hq
        · have := HV.out.lt q hq; omega
        · omega
    have RP2 : Hid (BL ((v.alloc (.map #[] 0)).setCell ⟨S, 0, none⟩ (.map (some b))) N (ptV p) 38) := by
      have hne : N ≠ S := by have := HW.out.lt S HSP.out; have := HN.out; omega
      exact bl_keep RP.out ((heap_set1 _ _ _ hne).trans (KA.out N (by have := VS.out; have := HB.out; omega)))
    have RC2 : Hid (BL ((v.alloc (.map #[] 0)).setCell ⟨S, 0, none⟩ (.map (some b))) (N + 1) (cnV c) 47) := by
      have hne : N + 1 ≠ S := by have := HW.out.lt S HSP.out; have := HN.out; omega
      exact bl_keep RC.out ((heap_set1 _ _ _ hne).trans (KA.out (N + 1) (by have := VS.out; have := HB.out; omega)))
    have BV2 : Hid (Fr w ((v.alloc (.map #[] 0)).setCell ⟨S, 0, none⟩ (.map (some b))) P) := by
      refine ⟨BV.out.os, BV.out.tape, BV.out.output, ?_, fun q hq hn => ?_⟩
      · rw [World.size_setCell, World.size_alloc]; have := BV.out.size; omega
      · exact (heap_set1 _ _ _ (show q ≠ S from fun e => hn (e ▸ HSP.out))).trans ((KA.out q (by have := BV.out.size; omega)).trans (BV.out.block q (by rw [← HN.out]; exact hq)))
    have VS2 : Hid (N + 2 ≤ ((v.alloc (.map #[] 0)).setCell ⟨S, 0, none⟩ (.map (some b))).heap.size) := by show _ ≤ _; rw [World.size_setCell, World.size_alloc]; have := VS.out; omega
    have PB : Hid (∀ q, (fun q => P q ∨ q = b) q → P q ∨ (L = [] ∧ w.heap.size ≤ q)) := fun q hq => hq.elim .inl fun e => .inr ⟨hmp, by have := VS.out; have := HB.out; have := HN.out; omega⟩
    obtain ⟨P1, hP1⟩ : ∃ P1, P1 = (fun q => P q ∨ q = b) := ⟨_, rfl⟩
    rw [← hP1] at HW2 PB
    clear hP1 hmp HV
    go_enter Try.func28, Try.ntmps28
    go_upto_region 3 with (fail)
    generalize (v.alloc (.map #[] 0)).setCell ⟨S, 0, none⟩ (.map (some b)) = v at *
    have HV := HW2
    have RP := RP2
    have RC := RC2
    have BV := BV2
    have VS := VS2
    obtain ⟨Z, hZ⟩ : ∃ Z, v.heap.size = Z := ⟨_, rfl⟩
    have HZ := Lib.hid hZ
    clear hZ mk cA fA qT c00 c0
    have NB : Hid (S ≠ b ∧ N ≠ b ∧ N + 1 ≠ b) := ⟨set_ne HV.out, map_ne HV.out.map.1 RP.out, map_ne HV.out.map.1 RC.out⟩
    have C0 : Hid (∀ w' : World, (∀ q, q ≠ b → q < Z → w'.heap[q]? = v.heap[q]?) → w'.cell? ⟨S, 0, none⟩ = some (.map (some b))) := fun w' hw => (World.cell?_of_block (w := v) (a := ⟨S, 0, none⟩) (hw S NB.out.1 (by rw [← HZ.out]; exact HV.out.lt S HV.out.inS))).trans HV.out.c0
    have VZ : N + 2 ≤ Z := by have := VS.out; have := HZ.out; omega
    refine wp_region_held_drew (S := (fun w' : World => ∀ q, q ≠ b → q < Z → w'.heap[q]? = v.heap[q]?)) (by kernel_rfl) (by exact fun _ _ _ => rfl) (fun hHeld => ?_)
    refine wpAnyH_take (i := 0) (v := ?_) rfl (by kernel_rfl) (by kernel_rfl) (by kernel_rfl) (fun _ _ _ h => h) (Or.inl ⟨by rfl, ?_⟩) (by assumption) ?_
    rotate_left
    · (intro w hSw; (try dsimp only at hSw); go_simp; try with_reducible rfl)
    simp only [Act.put, List.getElem_toArray, List.getElem_cons_zero, List.setIfInBounds_toArray, List.set_cons_zero, List.set_cons_succ]
    refine wpAnyH_take (i := 1) (v := ?_) rfl (by kernel_rfl) (by kernel_rfl) (by kernel_rfl) (fun _ _ _ h => h) (Or.inl ⟨by rfl, ?_⟩) (by assumption) ?_
    rotate_left
    · (intro w hSw; (try dsimp only at hSw); go_simp; try with_reducible rfl)
    simp only [Act.put, List.getElem_toArray, List.getElem_cons_succ, List.getElem_cons_zero, List.setIfInBounds_toArray, List.set_cons_zero, List.set_cons_succ]
    refine wpAnyH_take (i := 2) (v := ?_) rfl (by kernel_rfl) (by kernel_rfl) (by kernel_rfl) (fun _ _ _ h => h) (Or.inl ⟨by rfl, ?_⟩) (by assumption) ?_
    rotate_left
    · (intro w hSw; (try dsimp only at hSw); go_simp; try with_reducible rfl)
    simp only [Act.put, List.getElem_toArray, List.getElem_cons_succ, List.getElem_cons_zero, List.setIfInBounds_toArray, List.set_cons_zero, List.set_cons_succ]
    refine wpAnyH_take (i := 3) (v := ?_) rfl (by kernel_rfl) (by kernel_rfl) (by kernel_rfl) (fun _ _ _ h => h) (Or.inl ⟨by rfl, ?_⟩) (by assumption) ?_
    rotate_left
    · (intro w hSw; (try dsimp only at hSw); have c0 := C0.out w hSw; go_simp; try with_reducible rfl)
    simp only [Act.put, List.getElem_toArray, List.getElem_cons_succ, List.getElem_cons_zero, List.setIfInBounds_toArray, List.set_cons_zero, List.set_cons_succ]
    refine wpAnyH_take (i := 4) rfl (by kernel_rfl) (by kernel_rfl) (by kernel_rfl) (fun _ _ _ h => h) (yieldsIf_load_mid (by rfl) 38 (.tmp 4) rfl N 0 rfl (ptV p) _ (fun w h => range_keep1 (range_of RP.out) (h N NB.out.2.1 (by omega))) Try.underlying38 rfl (szP HP.out)) (by assumption) ?_
    simp only [Act.put, List.getElem_toArray, List.getElem_cons_succ, List.getElem_cons_zero, List.setIfInBounds_toArray, List.set_cons_zero, List.set_cons_succ]
    refine wpAnyH_take (i := 5) rfl (by kernel_rfl) (by kernel_rfl) (by kernel_rfl) (fun _ _ _ h => h) (yieldsIf_load_mid (by rfl) 47 (.tmp 5) rfl (N + 1) 0 rfl (cnV c) _ (fun w h => range_keep1 (range_of RC.out) (h (N + 1) NB.out.2.2 (by omega))) Try.underlying47 rfl (szC HC.out.len)) (by assumption) ?_
    simp only [Act.put, List.getElem_toArray, List.getElem_cons_succ, List.getElem_cons_zero, List.setIfInBounds_toArray, List.set_cons_zero, List.set_cons_succ]
    refine wpAnyH_ready (rs := [6]) (by kernel_rfl) (by simp) ?_
    refine AllReadyH.cons rfl (fun K hK => ?_) AllReadyH.nil
    refine step_mput rfl (.tmp 18) (.tmp 19) (.tmp 20) rfl b (setN L) (setF L) p c rfl rfl rfl (HV.out.map.1.keep rfl) NL.out HP.out HK.out.no HC.out.len ?_
    intro w2 hm2 ht2
    have ht := turned_fr ht2
    have KB : Hid (∀ q, q ≠ b → w2.heap[q]? = v.heap[q]?) := fun q hq => ht.2.2.2.2 q hq
    have M2 := Lib.hid hm2
    have F2 : Hid (w2.os = v.os ∧ w2.tape = v.drew.tape ∧ w2.output = v.output ∧ w2.heap.size = v.heap.size) := ⟨ht.1, ht.2.1, ht.2.2.1, ht.2.2.2.1⟩
    clear hHeld hm2 ht2 ht
    refine hK.out _ _ (by exact fun q hq _ => KB.out q hq) (fun hHeld => ?_)
    clear hK K hHeld
    refine wpAnyH_done (by kernel_rfl) ?_ _
    have c1 : w2.cell? ⟨S, 1, none⟩ = some (.int .i64 (setT L)) := (World.cell?_of_block (w := v) (a := ⟨S, 1, none⟩) (KB.out S NB.out.1)).trans HV.out.c1
    have f1 : w2.frozen? ⟨S, 1, none⟩ = false := bl_free (bl_keep HV.out.blk (KB.out S NB.out.1)) 1
    have cA : w2.cell? ⟨N + 1, 8, none⟩ = some (.int .i64 (amt c)) := (World.cell?_of_block (w := v) (a := ⟨N + 1, 8, none⟩) (KB.out (N + 1) NB.out.2.2)).trans (by have := range_cell (range_of RC.out) (cn_amt HC.out.len); rwa [Nat.zero_add] at this)
    obtain ⟨t0, t1⟩ := T0.out
    obtain ⟨t2, t3⟩ := T1.out
    clear VZ
    go_upto_region 4 with (fail)
    go_still_tail 10, (by kernel_rfl)
    go_wp2
    refine bodyPost_end (v := .tuple #[]) (by simp [results, Try.results28, go_sem]) rfl ⟨rfl, P1, ⟨some b, A, k, ?_⟩, PB.out, ?_⟩
    · exact (put_done HK.out HV.out (fun q _ hq => KB.out q hq) M2.out (Nat.le_of_eq F2.out.2.2.2.symm) rfl).keep (fun q _ => rfl) (Nat.le_refl _)
    · refine ⟨F2.out.1.trans BV.out.os, F2.out.2.1.trans BV.out.tape, F2.out.2.2.1.trans BV.out.output, ?_, fun q hq hn => ?_⟩
      · show _ ≤ (w2.setCell _ _).heap.size
        rw [World.size_setCell, F2.out.2.2.2]
        exact BV.out.size
      · have hqS : q ≠ S := fun e => hn (e ▸ HSP.out)
        have hqb : q ≠ b := fun e => (PB.out b HV.out.map.2).elim (fun h => hn (e ▸ h)) (fun h => by have := h.2; omega)
        exact (heap_set1 _ _ _ hqS).trans ((KB.out q hqb).trans (BV.out.block q hq hn))
  | some b =>
    obtain ⟨P1, hP1⟩ : ∃ P1, P1 = P := ⟨_, rfl⟩
    have PB : Hid (∀ q, P1 q → P q ∨ (L = [] ∧ w.heap.size ≤ q)) := by subst hP1; exact fun q hq => .inl hq
    have HV : Hid (SetAt v S L R P1 (some b) A k) := by subst hP1; exact HV
    obtain ⟨Z, hZ⟩ : ∃ Z, v.heap.size = Z := ⟨_, rfl⟩
    have HZ := Lib.hid hZ
    clear hZ hP1
    go_enter Try.func28, Try.ntmps28
    go_upto_region 3 with (fail)
    (try rw [hv])
    clear hmp c0 qT hv
    have NB : Hid (S ≠ b ∧ N ≠ b ∧ N + 1 ≠ b) := ⟨set_ne HV.out, map_ne HV.out.map.1 RP.out, map_ne HV.out.map.1 RC.out⟩
    have C0 : Hid (∀ w' : World, (∀ q, q ≠ b → q < Z → w'.heap[q]? = v.heap[q]?) → w'.cell? ⟨S, 0, none⟩ = some (.map (some b))) := fun w' hw => (World.cell?_of_block (w := v) (a := ⟨S, 0, none⟩) (hw S NB.out.1 (by rw [← HZ.out]; exact HV.out.lt S HV.out.inS))).trans HV.out.c0
    have VZ : N + 2 ≤ Z := by have := VS.out; have := HZ.out; omega
    refine wp_region_held_drew (S := (fun w' : World => ∀ q, q ≠ b → q < Z → w'.heap[q]? = v.heap[q]?)) (by kernel_rfl) (by exact fun _ _ _ => rfl) (fun hHeld => ?_)
    refine wpAnyH_take (i := 0) (v := ?_) rfl (by kernel_rfl) (by kernel_rfl) (by kernel_rfl) (fun _ _ _ h => h) (Or.inl ⟨by rfl, ?_⟩) (by assumption) ?_
    rotate_left
    · (intro w hSw; (try dsimp only at hSw); go_simp; try with_reducible rfl)
    simp only [Act.put, List.getElem_toArray, List.getElem_cons_zero, List.setIfInBounds_toArray, List.set_cons_zero, List.set_cons_succ]
    refine wpAnyH_take (i := 1) (v := ?_) rfl (by kernel_rfl) (by kernel_rfl) (by kernel_rfl) (fun _ _ _ h => h) (Or.inl ⟨by rfl, ?_⟩) (by assumption) ?_
    rotate_left
    · (intro w hSw; (try dsimp only at hSw); go_simp; try with_reducible rfl)
    simp only [Act.put, List.getElem_toArray, List.getElem_cons_succ, List.getElem_cons_zero, List.setIfInBounds_toArray, List.set_cons_zero, List.set_cons_succ]
    refine wpAnyH_take (i := 2) (v := ?_) rfl (by kernel_rfl) (by kernel_rfl) (by kernel_rfl) (fun _ _ _ h => h) (Or.inl ⟨by rfl, ?_⟩) (by assumption) ?_
    rotate_left
    · (intro w hSw; (try dsimp only at hSw); go_simp; try with_reducible rfl)
    simp only [Act.put, List.getElem_toArray, List.getElem_cons_succ, List.getElem_cons_zero, List.setIfInBounds_toArray, List.set_cons_zero, List.set_cons_succ]
    refine wpAnyH_take (i := 3) (v := ?_) rfl (by kernel_rfl) (by kernel_rfl) (by kernel_rfl) (fun _ _ _ h => h) (Or.inl ⟨by rfl, ?_⟩) (by assumption) ?_
    rotate_left
    · (intro w hSw; (try dsimp only at hSw); have c0 := C0.out w hSw; go_simp; try with_reducible rfl)
    simp only [Act.put, List.getElem_toArray, List.getElem_cons_succ, List.getElem_cons_zero, List.setIfInBounds_toArray, List.set_cons_zero, List.set_cons_succ]
    refine wpAnyH_take (i := 4) rfl (by kernel_rfl) (by kernel_rfl) (by kernel_rfl) (fun _ _ _ h => h) (yieldsIf_load_mid (by rfl) 38 (.tmp 4) rfl N 0 rfl (ptV p) _ (fun w h => range_keep1 (range_of RP.out) (h N NB.out.2.1 (by omega))) Try.underlying38 rfl (szP HP.out)) (by assumption) ?_
    simp only [Act.put, List.getElem_toArray, List.getElem_cons_succ, List.getElem_cons_zero, List.setIfInBounds_toArray, List.set_cons_zero, List.set_cons_succ]
    refine wpAnyH_take (i := 5) rfl (by kernel_rfl) (by kernel_rfl) (by kernel_rfl) (fun _ _ _ h => h) (yieldsIf_load_mid (by rfl) 47 (.tmp 5) rfl (N + 1) 0 rfl (cnV c) _ (fun w h => range_keep1 (range_of RC.out) (h (N + 1) NB.out.2.2 (by omega))) Try.underlying47 rfl (szC HC.out.len)) (by assumption) ?_
    simp only [Act.put, List.getElem_toArray, List.getElem_cons_succ, List.getElem_cons_zero, List.setIfInBounds_toArray, List.set_cons_zero, List.set_cons_succ]
    refine wpAnyH_ready (rs := [6]) (by kernel_rfl) (by simp) ?_
    refine AllReadyH.cons rfl (fun K hK => ?_) AllReadyH.nil
    refine step_mput rfl (.tmp 18) (.tmp 19) (.tmp 20) rfl b (setN L) (setF L) p c rfl rfl rfl (HV.out.map.1.keep rfl) NL.out HP.out HK.out.no HC.out.len ?_
    intro w2 hm2 ht2
    have ht := turned_fr ht2
    have KB : Hid (∀ q, q ≠ b → w2.heap[q]? = v.heap[q]?) := fun q hq => ht.2.2.2.2 q hq
    have M2 := Lib.hid hm2
    have F2 : Hid (w2.os = v.os ∧ w2.tape = v.drew.tape ∧ w2.output = v.output ∧ w2.heap.size = v.heap.size) := ⟨ht.1, ht.2.1, ht.2.2.1, ht.2.2.2.1⟩
    clear hHeld hm2 ht2 ht
    refine hK.out _ _ (by exact fun q hq _ => KB.out q hq) (fun hHeld => ?_)
    clear hK K hHeld
    refine wpAnyH_done (by kernel_rfl) ?_ _
    have c1 : w2.cell? ⟨S, 1, none⟩ = some (.int .i64 (setT L)) := (World.cell?_of_block (w := v) (a := ⟨S, 1, none⟩) (KB.out S NB.out.1)).trans HV.out.c1
    have f1 : w2.frozen? ⟨S, 1, none⟩ = false := bl_free (bl_keep HV.out.blk (KB.out S NB.out.1)) 1
    have cA : w2.cell? ⟨N + 1, 8, none⟩ = some (.int .i64 (amt c)) := (World.cell?_of_block (w := v) (a := ⟨N + 1, 8, none⟩) (KB.out (N + 1) NB.out.2.2)).trans (by have := range_cell (range_of RC.out) (cn_amt HC.out.len); rwa [Nat.zero_add] at this)
    obtain ⟨t0, t1⟩ := T0.out
    obtain ⟨t2, t3⟩ := T1.out
    clear VZ
    go_upto_region 4 with (fail)
    go_still_tail 10, (by kernel_rfl)
    go_wp2
    refine bodyPost_end (v := .tuple #[]) (by simp [results, Try.results28, go_sem]) rfl ⟨rfl, P1, ⟨some b, A, k, ?_⟩, PB.out, ?_⟩
    · exact (put_done HK.out HV.out (fun q _ hq => KB.out q hq) M2.out (Nat.le_of_eq F2.out.2.2.2.symm) rfl).keep (fun q _ => rfl) (Nat.le_refl _)
    · refine ⟨F2.out.1.trans BV.out.os, F2.out.2.1.trans BV.out.tape, F2.out.2.2.1.trans BV.out.output, ?_, fun q hq hn => ?_⟩
      · show _ ≤ (w2.setCell _ _).heap.size
        rw [World.size_setCell, F2.out.2.2.2]
        exact BV.out.size
      · have hqS : q ≠ S := fun e => hn (e ▸ HSP.out)
        have hqb : q ≠ b := fun e => (PB.out b HV.out.map.2).elim (fun h => hn (e ▸ h)) (fun h => by have := h.2; omega)
        exact (heap_set1 _ _ _ hqS).trans ((KB.out q hqb).trans (BV.out.block q (by rw [← HN.out]; exact hq)))
theorem uPut (S : Nat) (L M R : List Stp) (P : Nat → Prop) (p : List Int) (c : Cn) (w : World) (h : Set2 w S L R P) (hk : Comes L M p c) (hL : okS L) :
    Calls Try.prog 28 #[.pointer (some ⟨S, 0, none⟩), .agg (ptV p).toArray, .agg (cnV c).toArray] w fun e w' => e = .returned (.tuple #[]) ∧ ∃ P', Set2 w' S M R P' ∧ (∀ q, P' q → P q ∨ w.heap.size ≤ q) ∧ Fr w w' P :=
  (uPutX S L M R P p c w h hk hL).mono fun _ _ ⟨he, P', h1, h2, h3⟩ => ⟨he, P', h1, fun q hq => (h2 q hq).imp id And.right, h3⟩
end Go.Proofs.Ytdggnmlhgglccaa
