/-
  A Reader as a tape.
-/
import Derived.Test.YtffaddefnpkcgaaGreatDoorZT27
import Derived.Test.YtffaddefnpkcgaaGreatDoorZF
import Derived.Test.YtffaddefnpkcgaaGreatDoorZH
import Derived.Laws.ResultCell
namespace Go.Proofs.YtffaddefnpkcgaaGreatDoor
open Go.RowKit
set_option maxRecDepth 100000
attribute [local irreducible] ua da ba kk sw S8.run rt hs comp splice outB sha msg zeros win bvals vals cel seg
attribute [local go_sem ↓] Go.wp_at_zero Go.wp_at_succ
def rX (Rb : Nat) : Value := .agg #[.pointer (some ⟨Rb, 0, none⟩)]
def rV (Rb : Nat) : Value := .iface 96 (rX Rb)
theorem r_callN (Rb : Nat) (a b : Value) (w : World) : (callMethod (rV Rb) "drawbridge/tx.num" #[a, b]).run Tryz.prog w = .ok (.enter 160 #[rX Rb, a, b]) w := by kernel_rfl
theorem r_callH (Rb : Nat) (a : Value) (w : World) : (callMethod (rV Rb) "drawbridge/tx.hash" #[a]).run Tryz.prog w = .ok (.enter 159 #[rX Rb, a]) w := by kernel_rfl
theorem r_nil {Rb : Nat} {s : String} (hs : s = "drawbridge/tx.num" ∨ s = "drawbridge/tx.hash") {o : Oper} {ev : Operand → Value} {x : Operand} (ho : o.op = .nilCheck x) (hx : ev x = .func (.method s) #[rV Rb] #[]) (w : World) : (execOp ev o).run Tryz.prog w = .ok (.value (.func (.method s) #[rV Rb] #[])) w := by
  unfold execOp
  simp only [ho, hx]
  rcases hs with rfl | rfl <;> kernel_rfl
structure ROwn (B Rb vb M : Nat) (w : World) (q : Nat) : Prop where
  ne : q ≠ Rb
  far : q < B ∨ Rb < q
  at' : q = vb ∨ M ≤ q
  free : ∀ i, w.frozen? ⟨q, i, none⟩ = false
theorem frz_same {w W : World} {q : Nat} (h : W.heap[q]? = w.heap[q]?) (i : Nat) : W.frozen? ⟨q, i, none⟩ = w.frozen? ⟨q, i, none⟩ := by unfold World.frozen?; rw [show W.heap[(⟨q, i, none⟩ : Addr).block]? = w.heap[(⟨q, i, none⟩ : Addr).block]? from h]
theorem ROwn.same {B Rb vb M : Nat} {w W : World} {q : Nat} (o : ROwn B Rb vb M w q) (h : W.heap[q]? = w.heap[q]?) : ROwn B Rb vb M W q := ⟨o.ne, o.far, o.at', fun i => (frz_same h i).trans (o.free i)⟩
theorem frz_set (w : World) (b o : Nat) (v : Value) (q i : Nat) : (w.setCell ⟨b, o, none⟩ v).frozen? ⟨q, i, none⟩ = w.frozen? ⟨q, i, none⟩ := World.frozen?_setCell _ _ _ _
theorem rdr_set {B Rb : Nat} {w : World} {bs : List Int} (h : Rdr B w Rb bs) {b : Nat} (hne : b ≠ Rb) (hf : b < B ∨ Rb < b) (o : Nat) (v : Value) : Rdr B (w.setCell ⟨b, o, none⟩ v) Rb bs := by
  obtain ⟨A, c, h⟩ := h
  refine ⟨A, c, (Below.heap_setCell _ _ _ _ (Ne.symm hne)).trans h.one, h.le, h.cm, row_block h.row (fun b' off e _ _ => Below.heap_setCell _ _ _ _ ?_), h.byt, h.at'⟩
  rcases h.at' with ⟨e2, _⟩ | ⟨b2, off2, e2, h1, h2⟩
  · rw [e2] at e; cases e
  · rw [e2] at e
    injection e with e
    injection e with e1 _
    show b' ≠ b
    omega
theorem st_set {Rb vb : Nat} {w1 w : World} (h : St Rb vb w1 w) {b : Nat} (hb : b = vb ∨ w1.heap.size ≤ b) (o : Nat) (v : Value) : St Rb vb w1 (w.setCell ⟨b, o, none⟩ v) :=
  ⟨h.os, h.tape, h.output, by simp [World.setCell]; exact h.size, fun k hk h1 h2 => (Below.heap_setCell _ _ _ _ (by show k ≠ b; omega)).trans (h.block k hk h1 h2)⟩
theorem rdr_sets {B Rb : Nat} {b : Nat} (hne : b ≠ Rb) (hf : b < B ∨ Rb < b) : ∀ (vs : List Value) {w : World} {bs : List Int} (o : Nat), Rdr B w Rb bs → Rdr B (w.setCells b o vs) Rb bs
  | [], _, _, _, h => h
  | _ :: vs, _, _, o, h => rdr_sets hne hf vs (o + 1) (rdr_set h hne hf o _)
theorem st_sets {Rb vb b : Nat} {w1 : World} (hb : b = vb ∨ w1.heap.size ≤ b) : ∀ (vs : List Value) {w : World} (o : Nat), St Rb vb w1 w → St Rb vb w1 (w.setCells b o vs)
  | [], _, _, h => h
  | _ :: vs, _, o, h => st_sets hb vs (o + 1) (st_set h hb o _)
theorem own_set {B Rb vb M : Nat} {w : World} {q : Nat} (h : ROwn B Rb vb M w q) (b o : Nat) (v : Value) : ROwn B Rb vb M (w.setCell ⟨b, o, none⟩ v) q := ⟨h.ne, h.far, h.at', fun i => (frz_set w b o v q i).trans (h.free i)⟩
theorem own_sets {B Rb vb M : Nat} {q b : Nat} : ∀ (vs : List Value) {w : World} (o : Nat), ROwn B Rb vb M w q → ROwn B Rb vb M (w.setCells b o vs) q
  | [], _, _, h => h
  | _ :: vs, _, o, h => own_sets vs (o + 1) (own_set h b o _)
set_option maxHeartbeats 2000000 in
theorem rNum (B Rb vb M : Nat) (w1 w : World) (bs : List Int) (b o : Nat) (x : Int) (k : Nat) (h1 : 1 ≤ k) (h7 : k ≤ 7) (hR : Rdr B w Rb bs) (hS : St Rb vb w1 w) (hM : w1.heap.size = M) (hb : b < w.heap.size) (hO : ROwn B Rb vb M w b) (hc : w.cell? ⟨b, o, none⟩ = some (.int .i64 x)) :
    (k ≤ bs.length → Calls Tryz.prog 160 #[rX Rb, .pointer (some ⟨b, o, none⟩), .int .i64 k] w fun e w' => e = .returned (.tuple #[]) ∧ (Rdr B w' Rb (bs.drop k) ∧ St Rb vb w1 w') ∧ Ch (ROwn B Rb vb M) false w w' b o 1 ∧ w'.cell? ⟨b, o, none⟩ = some (.int .i64 (numL (bs.take k)))) ∧
    (bs.length < k → Calls Tryz.prog 160 #[rX Rb, .pointer (some ⟨b, o, none⟩), .int .i64 k] w fun e w' => Short e ∧ St Rb vb w1 w') := by
  obtain ⟨N, hN⟩ : ∃ N, w.heap.size = N := ⟨_, rfl⟩
  have NN := Lib.hid hN
  have KA : Hid (∀ q, q < N → (w.alloc (Obj.cells #[.pointer (some ⟨Rb, 0, none⟩)] 96)).heap[q]? = w.heap[q]?) := fun q hq => Below.heap_alloc w _ q (by rw [hN]; exact hq)
  have R1 : Hid (Rdr B (w.alloc (Obj.cells #[.pointer (some ⟨Rb, 0, none⟩)] 96)) Rb bs) := hR.keep fun q hq => Below.heap_alloc w _ q hq
  have S1 : Hid (St Rb vb w1 (w.alloc (Obj.cells #[.pointer (some ⟨Rb, 0, none⟩)] 96))) := hS.trans (St.of_below ((Below.refl _ w).alloc (Nat.le_refl _) _))
  have SZ : Hid ((w.alloc (Obj.cells #[.pointer (some ⟨Rb, 0, none⟩)] 96)).heap.size = N + 1) := by show _ = _; rw [World.size_alloc, hN]
  have k0 : (w.alloc (Obj.cells #[.pointer (some ⟨Rb, 0, none⟩)] 96)).cell? ⟨N, 0, none⟩ = some (.pointer (some ⟨Rb, 0, none⟩)) := by rw [← hN]; exact cell_of_one (heap_alloc_last w _)
  have HB : Hid (b < N) := by rw [← hN]; exact hb
  have HO := Lib.hid hO
  have HC := Lib.hid hc
  have HM := Lib.hid hM
  clear hR hS hb hO hc hM
  unfold rX
  refine ⟨fun hl => ?_, fun hl => ?_⟩
  · have C := Lib.hid (wc17y Rb k bs _ R1.out h1 h7 hl)
    clear hl
    go_enter Tryz.func160, Tryz.ntmps160
    go_wp2_with fail
    refine C.out.mono ?_
    rintro e w2 ⟨rfl, h3, h4⟩
    have H3 := Lib.hid h3
    have HG := Lib.hid h4
    have hbk : w2.heap[b]? = w.heap[b]? := (h4.block b (by rw [SZ.out]; have := HB.out; omega) (by intro h; injection h with h; exact HO.out.ne h)).trans (KA.out b HB.out)
    have HK := Lib.hid hbk
    have k1 : w2.cell? ⟨b, o, none⟩ = some (.int .i64 x) := by rw [← HC.out]; simp only [World.cell?, hbk]
    have f1 : w2.frozen? ⟨b, o, none⟩ = false := (frz_same hbk o).trans (HO.out.free o)
    have K1 := Lib.hid k1
    clear h3 h4 hbk C
    go_wp2
    go_end0
    refine ⟨rfl, ⟨rdr_set H3.out HO.out.ne HO.out.far o _, st_set (S1.out.trans (St.of_grown HG.out)) (by rw [HM.out]; exact HO.out.at') o _⟩, ⟨by have := HG.out.size; rw [SZ.out] at this; rw [NN.out]; simp [World.setCell]; omega, fun q hq ho => ?_, fun q hq ho hne => ?_, fun i hi => ?_⟩, World.cell?_setCell_same _ _ _ K1.out⟩
    · refine own_set (w := w2) ⟨ho.ne, ho.far, ho.at', fun i => (frz_same ?_ i).trans (ho.free i)⟩ b o _
      exact (HG.out.block q (by rw [SZ.out]; rw [NN.out] at hq; omega) (by intro h; injection h with h; exact ho.ne h)).trans (KA.out q (by rw [← NN.out]; exact hq))
    · have hqb : q ≠ b := by
        rcases hne with h | h
        · exact h
        · cases h
      rw [heap_setCell_other _ _ _ _ (by show q ≠ b; exact hqb)]
      exact (HG.out.block q (by rw [SZ.out]; rw [NN.out] at hq; omega) (by intro h; injection h with h; exact ho.ne h)).trans (KA.out q (by rw [← NN.out]; exact hq))
    · rw [World.cell?_setCell_other _ _ _ _ (by intro h; simp only [Addr.mk.injEq] at h; omega)]
      simp only [World.cell?, HK.out]
  · have C := Lib.hid (wc17n Rb k bs _ R1.out (.inr (.inr (by omega))))
    clear hl
    go_enter Tryz.func160, Tryz.ntmps160
    go_wp2_with fail
    refine C.out.mono ?_
    rintro e w2 ⟨hse, rfl⟩
    unfold Short at hse
    subst hse
    exact ⟨rfl, rfl, S1.out⟩
set_option maxHeartbeats 2000000 in
theorem rHash (B Rb vb M : Nat) (w1 w : World) (bs : List Int) (b o : Nat) (x : List Int) (h8 : x.length = 8) (hR : Rdr B w Rb bs) (hS : St Rb vb w1 w) (hM : w1.heap.size = M) (hb : b < w.heap.size) (hO : ROwn B Rb vb M w b) (hc : w.rangeAt b o (bvals x)) :
    (8 ≤ bs.length → Calls Tryz.prog 159 #[rX Rb, .pointer (some ⟨b, o, none⟩)] w fun e w' => e = .returned (.tuple #[]) ∧ (Rdr B w' Rb (bs.drop 8) ∧ St Rb vb w1 w') ∧ Ch (ROwn B Rb vb M) false w w' b o 8 ∧ w'.rangeAt b o (bvals (bs.take 8))) ∧
    (bs.length < 8 → Calls Tryz.prog 159 #[rX Rb, .pointer (some ⟨b, o, none⟩)] w fun e w' => Short e ∧ St Rb vb w1 w') := by
  obtain ⟨N, hN⟩ : ∃ N, w.heap.size = N := ⟨_, rfl⟩
  have NN := Lib.hid hN
  have KA : Hid (∀ q, q < N → (w.alloc (Obj.cells #[.pointer (some ⟨Rb, 0, none⟩)] 96)).heap[q]? = w.heap[q]?) := fun q hq => Below.heap_alloc w _ q (by rw [hN]; exact hq)
  have R1 : Hid (Rdr B (w.alloc (Obj.cells #[.pointer (some ⟨Rb, 0, none⟩)] 96)) Rb bs) := hR.keep fun q hq => Below.heap_alloc w _ q hq
  have S1 : Hid (St Rb vb w1 (w.alloc (Obj.cells #[.pointer (some ⟨Rb, 0, none⟩)] 96))) := hS.trans (St.of_below ((Below.refl _ w).alloc (Nat.le_refl _) _))
  have SZ : Hid ((w.alloc (Obj.cells #[.pointer (some ⟨Rb, 0, none⟩)] 96)).heap.size = N + 1) := by show _ = _; rw [World.size_alloc, hN]
  have k0 : (w.alloc (Obj.cells #[.pointer (some ⟨Rb, 0, none⟩)] 96)).cell? ⟨N, 0, none⟩ = some (.pointer (some ⟨Rb, 0, none⟩)) := by rw [← hN]; exact cell_of_one (heap_alloc_last w _)
  have HB : Hid (b < N) := by rw [← hN]; exact hb
  have HO := Lib.hid hO
  have HC := Lib.hid hc
  have HM := Lib.hid hM
  clear hR hS hb hO hc hM
  unfold rX
  refine ⟨fun hl => ?_, fun hl => ?_⟩
  · have C := Lib.hid (wc15y Rb bs _ R1.out hl)
    have HLL := Lib.hid hl
    clear hl
    go_enter Tryz.func159, Tryz.ntmps159
    go_wp2_with fail
    refine C.out.mono ?_
    rintro e w2 ⟨rfl, h3, h4⟩
    have H3 := Lib.hid h3
    have HG := Lib.hid h4
    have hbk : w2.heap[b]? = w.heap[b]? := (h4.block b (by rw [SZ.out]; have := HB.out; omega) (by intro h; injection h with h; exact HO.out.ne h)).trans (KA.out b HB.out)
    have HK := Lib.hid hbk
    have HL : Hid ((bs.take 8).length = 8) := by show _ = _; rw [List.length_take]; have := HLL.out; omega
    have BL8 : Hid ((bvals (bs.take 8)).length = 8) := by show _ = _; rw [← vals_byt 8 _ HL.out, vals_len (by rw [HL.out]; rfl)]; rfl
    have X8 : Hid ((bvals x).length = 8) := by show _ = _; rw [← vals_byt 8 _ h8, vals_len (by rw [h8]; rfl)]; rfl
    have TH : Hid (w2.there b o 8) := fun j hj => by
      obtain ⟨u, hu⟩ : ∃ u, (bvals x)[j]? = some u := ⟨_, List.getElem?_eq_getElem (by rw [X8.out]; exact hj)⟩
      have h5 := HC.out j u hu
      refine ⟨?_, (frz_same hbk _).trans (HO.out.free _)⟩
      rw [show w2.cell? ⟨b, o + j, none⟩ = w.cell? ⟨b, o + j, none⟩ from by simp only [World.cell?, hbk], h5]
      rfl
    unfold hval
    clear h3 h4 hbk C
    go_wp2_with (refine wpList_store_mid rfl 29 (.tmp 8) (.tmp 7) rfl b o (bvals (bs.take 8)).toArray rfl rfl (by rw [List.size_toArray, BL8.out]; exact TH.out) (by rw [List.size_toArray, BL8.out]; exact i29) (all_oneCell_toArray (by rw [← vals_byt 8 _ HL.out]; exact vals_one _ _)) ?_)
    go_end0
    refine ⟨rfl, ⟨rdr_sets HO.out.ne HO.out.far _ o H3.out, st_sets (by rw [HM.out]; exact HO.out.at') _ o (S1.out.trans (St.of_grown HG.out))⟩, ⟨by have := HG.out.size; rw [SZ.out] at this; rw [NN.out]; have h9 := (below_sets (B := 0) (bvals (bs.take 8)) o (Below.refl 0 w2) (Nat.zero_le b)).size; refine Nat.le_trans ?_ h9; omega, fun q hq ho => ?_, fun q hq ho hne => ?_, fun i hi => ?_⟩, World.rangeAt_setCells_same w2 b o (bvals (bs.take 8)) (by rw [BL8.out]; exact TH.out)⟩
    · refine own_sets (w := w2) _ o ⟨ho.ne, ho.far, ho.at', fun i => (frz_same ?_ i).trans (ho.free i)⟩
      exact (HG.out.block q (by rw [SZ.out]; rw [NN.out] at hq; omega) (by intro h; injection h with h; exact ho.ne h)).trans (KA.out q (by rw [← NN.out]; exact hq))
    · have hqb : q ≠ b := by
        rcases hne with h | h
        · exact h
        · cases h
      rw [heap_sets _ _ _ _ hqb]
      exact (HG.out.block q (by rw [SZ.out]; rw [NN.out] at hq; omega) (by intro h; injection h with h; exact ho.ne h)).trans (KA.out q (by rw [← NN.out]; exact hq))
    · rw [World.cell?_setCells_out b _ _ _ _ (by intro _ _; show i < o ∨ o + (bvals (bs.take 8)).length ≤ i; rw [BL8.out]; exact hi)]
      simp only [World.cell?, HK.out]
  · have C := Lib.hid (wc15n Rb bs _ R1.out hl)
    clear hl
    go_enter Tryz.func159, Tryz.ntmps159
    go_wp2_with fail
    refine C.out.mono ?_
    rintro e w2 ⟨hse, h3, h4⟩
    unfold Short at hse
    subst hse
    exact ⟨rfl, rfl, S1.out.trans (St.of_grown h4)⟩
end Go.Proofs.YtffaddefnpkcgaaGreatDoor
namespace Go.Proofs.YtffaddefnpkcgaaGreatDoor
open Go.RowKit
set_option maxRecDepth 100000
def rT (B Rb vb : Nat) (w1 : World) (hR : Rb < w1.heap.size) : Tape where
  V := rV Rb
  X := rX Rb
  Fn := 160
  Fh := 159
  I := fun w bs => Rdr B w Rb bs ∧ St Rb vb w1 w
  Own := fun w q => ROwn B Rb vb w1.heap.size w q
  ro := false
  sh := true
  J := fun w => St Rb vb w1 w
  stN := fun k bs _ => if k ≤ bs.length ∧ 0 ≤ numL (bs.take k) ∧ numL (bs.take k) < 2 ^ (8 * k) then some (bs.drop k, numL (bs.take k)) else none
  stH := fun bs _ => if 8 ≤ bs.length then some (bs.drop 8, bs.take 8) else none
  callN := r_callN Rb
  callH := r_callH Rb
  nilN := fun ho hx w => r_nil (.inl rfl) ho hx w
  nilH := fun ho hx w => r_nil (.inr rfl) ho hx w
  lenH := fun {bs h p} _ hp => by
    by_cases hc : 8 ≤ bs.length
    · rw [if_pos hc] at hp
      simp only [Option.some.injEq] at hp
      rw [← hp]
      show (bs.take 8).length = 8
      rw [List.length_take]; omega
    · rw [if_neg hc] at hp
      cases hp
  num := fun w bs b o x k h1 h7 hI hb hO hc => by
    obtain ⟨g1, g2⟩ := rNum B Rb vb w1.heap.size w1 w bs b o x k h1 h7 hI.1 hI.2 rfl hb hO hc
    refine ⟨fun p hp => ?_, fun _ hn => ?_⟩
    · by_cases hx : k ≤ bs.length ∧ 0 ≤ numL (bs.take k) ∧ numL (bs.take k) < 2 ^ (8 * k)
      · rw [if_pos hx] at hp
        simp only [Option.some.injEq] at hp
        rw [← hp]
        exact g1 hx.1
      · rw [if_neg hx] at hp
        cases hp
    · by_cases hx : k ≤ bs.length
      · have hr := numL_range (bs.take k) (byt_take hI.1.byt k)
        rw [List.length_take, show min k bs.length = k by omega] at hr
        rw [if_pos ⟨hx, hr⟩] at hn
        cases hn
      · exact g2 (by omega)
  hash := fun w bs b o x hI hb hO h8 hc => by
    obtain ⟨g1, g2⟩ := rHash B Rb vb w1.heap.size w1 w bs b o x h8 hI.1 hI.2 rfl hb hO hc
    refine ⟨fun p hp => ?_, fun _ hn => ?_⟩
    · by_cases hx : 8 ≤ bs.length
      · rw [if_pos hx] at hp
        simp only [Option.some.injEq] at hp
        rw [← hp]
        exact g1 hx
      · rw [if_neg hx] at hp
        cases hp
    · by_cases hx : 8 ≤ bs.length
      · rw [if_pos hx] at hn
        cases hn
      · exact g2 (by omega)
  same := fun w w' bs hI h1 h2 h3 h4 hk => ⟨⟨hI.1.keep hk, hI.2.trans ⟨h1, h2, h3, h4, fun k hk' _ _ => hk k hk'⟩⟩, fun q hq ho => ho.same (hk q hq)⟩
  fresh := fun w w' bs g hI _ hk hg hf => by
    have := hI.2.size
    exact ⟨by omega, .inr (by omega), .inr (by omega), hf⟩
  byt1 := fun bs x p hp => by
    by_cases hx : 1 ≤ bs.length ∧ 0 ≤ numL (bs.take 1) ∧ numL (bs.take 1) < 2 ^ (8 * 1)
    · rw [if_pos hx] at hp
      simp only [Option.some.injEq] at hp
      rw [← hp]
      exact .inr ⟨rfl, hx.2.1, hx.2.2⟩
    · rw [if_neg hx] at hp
      cases hp
  free := fun _ w q ho i => ho.free i
  store := fun _ w bs b o v hI hO => ⟨⟨rdr_set hI.1 hO.ne hO.far o v, st_set hI.2 hO.at' o v⟩, fun q ho => own_set ho b o v⟩
def swp {α : Type} (p : α × List Int) : List Int × α := (p.2, p.1)
theorem parA_some (k : Nat) (bs : List Int) : parA (some k) bs = if k ≤ bs.length then some (numL (bs.take k), bs.drop k) else none := rfl
theorem par_byt : ∀ (k : Nat) (bs : List Int), par (List.replicate k none) bs = if k ≤ bs.length then some (bs.take k, bs.drop k) else none
  | 0, bs => by simp [par]
  | k + 1, [] => by simp [List.replicate_succ, par, parA]
  | k + 1, x :: bs => by
    simp only [List.replicate_succ, par, parA, Option.bind_some]
    rw [par_byt k bs]
    by_cases h : k ≤ bs.length
    · rw [if_pos h, if_pos (by rw [List.length_cons]; omega)]
      simp
    · rw [if_neg h, if_neg (by rw [List.length_cons]; omega)]
      rfl
variable {B Rb vb : Nat} {w1 : World} {hR : Rb < w1.heap.size}
theorem r_num {k : Nat} {bs : List Int} (x : Int) (hb : Byt bs) : (rT B Rb vb w1 hR).stN k bs x = (parA (some k) bs).map swp := by
  show (if k ≤ bs.length ∧ 0 ≤ numL (bs.take k) ∧ numL (bs.take k) < 2 ^ (8 * k) then some (bs.drop k, numL (bs.take k)) else none) = _
  rw [parA_some]
  by_cases h : k ≤ bs.length
  · have hr := numL_range (bs.take k) (byt_take hb k)
    rw [List.length_take, show min k bs.length = k by omega] at hr
    rw [if_pos ⟨h, hr⟩, if_pos h]
    rfl
  · rw [if_neg (fun g => h g.1), if_neg h]
    rfl
theorem r_hsh {bs : List Int} (x : List Int) : (rT B Rb vb w1 hR).stH bs x = (par hS bs).map swp := by
  show (if 8 ≤ bs.length then some (bs.drop 8, bs.take 8) else none) = (par (List.replicate 8 none) bs).map swp
  rw [par_byt]
  by_cases h : 8 ≤ bs.length
  · rw [if_pos h, if_pos h]; rfl
  · rw [if_neg h, if_neg h]; rfl
theorem parA_byt {k : Nat} {bs : List Int} {p : Int × List Int} (hb : Byt bs) (h : parA (some k) bs = some p) : Byt p.2 := by
  rw [parA_some] at h
  by_cases hk : k ≤ bs.length
  · rw [if_pos hk] at h
    simp only [Option.some.injEq] at h
    rw [← h]
    exact byt_drop hb k
  · rw [if_neg hk] at h
    cases h
theorem par_rest {S : Sch} {bs : List Int} {p : List Int × List Int} (hb : Byt bs) (h : par S bs = some p) : Byt p.2 := by
  obtain ⟨r, zs⟩ := p
  obtain ⟨e, _⟩ := par_back hb h
  exact byt_right (by rw [← e]; exact hb)
theorem r_st : ∀ (ps : List Pc) (bs r : List Int), Byt bs → (rT B Rb vb w1 hR).st ps bs r = (par (schP ps) bs).map swp
  | [], bs, r, _ => rfl
  | .num k :: ps, bs, r, hb => by
    simp only [Tape.st]
    rw [r_num _ hb]
    rw [show schP (.num k :: ps) = some k :: schP ps from rfl]
    simp only [par]
    cases h : parA (some k) bs with
    | none => rfl
    | some p =>
      simp only [Option.map_some, Option.bind_some, swp]
      rw [r_st ps p.2 _ (parA_byt hb h)]
      cases par (schP ps) p.2 <;> rfl
  | .hsh :: ps, bs, r, hb => by
    simp only [Tape.st]
    rw [r_hsh, schP_cons, par_app]
    rw [show Pc.hsh.sch = hS from rfl]
    cases h : par hS bs with
    | none => rfl
    | some p =>
      simp only [Option.map_some, Option.bind_some, swp]
      rw [r_st ps p.2 _ (par_rest hb h)]
      cases par (schP ps) p.2 <;> rfl
theorem r_stR (ps : List Pc) (z : List Int) : ∀ (n : Nat) (bs : List Int), Byt bs → (rT B Rb vb w1 hR).stR ps bs (List.replicate n z) = (parN (schP ps) n bs).map swp
  | 0, _, _ => rfl
  | n + 1, bs, hb => by
    simp only [List.replicate_succ, Tape.stR, parN]
    rw [r_st ps bs z hb]
    cases h : par (schP ps) bs with
    | none => rfl
    | some p =>
      simp only [Option.map_some, Option.bind_some, swp]
      rw [r_stR ps z n p.2 (par_rest hb h)]
      cases parN (schP ps) n p.2 <;> rfl
theorem r_stL (ps : List Pc) (bs : List Int) (hb : Byt bs) : (rT B Rb vb w1 hR).stL ps bs [] = (parL (schP ps) bs).map swp := by
  unfold Tape.stL parL
  rw [r_num _ hb]
  cases h : parA (some 1) bs with
  | none => rfl
  | some p =>
    simp only [Option.map_some, Option.bind_some, swp]
    have e : rowsOf (schP ps) p.1 [] = List.replicate p.1.toNat (zeros (schP ps).length) := by
      unfold rowsOf
      by_cases h0 : p.1 = 0
      · rw [if_pos (by rw [h0]; rfl), h0]; rfl
      · rw [if_neg (by exact h0)]
    rw [e, r_stR ps _ _ _ (parA_byt hb h)]
theorem parL_rest {S : Sch} {bs : List Int} {p : List (List Int) × List Int} (hb : Byt bs) (h : parL S bs = some p) : Byt p.2 := by
  obtain ⟨rs, zs⟩ := p
  obtain ⟨e, _, _⟩ := parL_back hb h
  exact byt_right (by rw [← e]; exact hb)
theorem r_stT (bs : List Int) (hb : Byt bs) : (rT B Rb vb w1 hR).stT bs tx0 = (parT bs).map swp := by
  unfold Tape.stT parT
  rw [r_num _ hb]
  cases h1 : parA (some 1) bs with
  | none => rfl
  | some p =>
    have b1 := parA_byt hb h1
    simp only [Option.map_some, Option.bind_some, swp]
    unfold parB
    by_cases k1 : p.1 = 1
    · rw [if_pos k1, if_pos k1, r_num _ b1]
      cases h2 : parA (some 4) p.2 with
      | none => rfl
      | some a =>
        simp only [Option.map_some, Option.bind_some, swp]
        rw [show tx0.outs = [] from rfl, r_stL outP _ (parA_byt b1 h2), sch_out]
        cases parL outS a.2 <;> rfl
    rw [if_neg k1, if_neg k1]
    by_cases k2 : p.1 = 2
    · rw [if_pos k2, if_pos k2, show tx0.ins = [] from rfl, r_stL inP _ b1, sch_in]
      cases h2 : parL inS p.2 with
      | none => rfl
      | some a =>
        have b2 := parL_rest b1 h2
        simp only [Option.map_some, Option.bind_some, swp]
        rw [show tx0.outs = [] from rfl, r_stL outP _ b2, sch_out]
        cases h3 : parL outS a.2 with
        | none => rfl
        | some q =>
          simp only [Option.map_some, Option.bind_some, swp]
          rw [show tx0.fwds = [] from rfl, r_stL fwdP _ (parL_rest b2 h3), sch_fwd]
          cases parL fwdS q.2 <;> rfl
    rw [if_neg k2, if_neg k2]
    by_cases k3 : p.1 = 3
    · rw [if_pos k3, if_pos k3]
      unfold Tape.stPar
      rw [r_st parP _ _ b1, sch_par]
      cases h2 : par parS p.2 with
      | none => rfl
      | some a =>
        simp only [Option.map_some, Option.bind_some, swp]
        rw [show tx0.keys = [] from rfl, r_stL hshP _ (par_rest b1 h2), sch_hsh]
        cases parL hS a.2 <;> rfl
    rw [if_neg k3, if_neg k3]
    by_cases k4 : p.1 = 4
    · rw [if_pos k4, if_pos k4]
      unfold Tape.stCer
      rw [r_st cerP _ _ b1, sch_cer]
      cases h2 : par cerS p.2 with
      | none => rfl
      | some a =>
        have b2 := par_rest b1 h2
        simp only [Option.map_some, Option.bind_some, swp]
        rw [show tx0.couts = [] from rfl, r_stL outP _ b2, sch_out]
        cases h3 : parL outS a.2 with
        | none => rfl
        | some q =>
          simp only [Option.map_some, Option.bind_some, swp]
          rw [show tx0.csigs = [] from rfl, r_stL sgnP _ (parL_rest b2 h3), sch_sgn]
          cases parL sgnS q.2 <;> rfl
    rw [if_neg k4, if_neg k4]
    by_cases k5 : p.1 = 5
    · rw [if_pos k5, if_pos k5, r_st claP _ _ b1, sch_cla]
      cases par claS p.2 <;> rfl
    · rw [if_neg k5, if_neg k5]
      rfl
end Go.Proofs.YtffaddefnpkcgaaGreatDoor
namespace Go.Proofs.YtffaddefnpkcgaaGreatDoor
open Go.RowKit
set_option maxRecDepth 100000
theorem lrow_of {T : Tape} {S : Sch} {w : World} {b p M : Nat} {rs : List (List Int)} {A : Option Addr} {c : Nat} (h : LstAt T S w b p rs M A c) : LRow S w A rs := by
  rcases h.row with g | ⟨g, off, e, _, _, _, h4⟩
  · exact .inl g
  · exact .inr ⟨g, off, e, h4⟩
theorem cap_of {T : Tape} {S : Sch} {w : World} {b p M : Nat} {rs : List (List Int)} {A : Option Addr} {c : Nat} (h : LstAt T S w b p rs M A c) : Cap ⟨A, c⟩ rs.length := ⟨h.le, h.mx, h.no⟩
theorem tat_back {T : Tape} {w : World} {b M : Nat} {t : TxP} {h : TxH} (a : TAt T w b t h M) : TRng w b t h ∧ Mem w t h := by
  refine ⟨⟨a.kind, a.height, a.i.cell, a.o.cell, a.f.cell, ?_, ?_, a.cla⟩, ⟨lrow_of a.i, lrow_of a.o, lrow_of a.f, lrow_of a.k, lrow_of a.co, lrow_of a.cs, cap_of a.i, cap_of a.o, cap_of a.f, cap_of a.k, cap_of a.co, cap_of a.cs⟩⟩
  · unfold parC
    refine range_join a.par fun i v hv => ?_
    have lp : (vals parS t.par).length = 3 := lvals parP_len a.lpar
    rw [lp]
    cases i with
    | zero =>
      simp at hv
      rw [← hv]
      exact a.k.cell
    | succ i => simp at hv
  · unfold cerC
    refine range_join a.cer fun i v hv => ?_
    have lc : (vals cerS t.cer).length = 19 := lvals cerP_len a.lcer
    rw [lc]
    match i, hv with
    | 0, hv =>
      simp at hv
      rw [← hv]
      exact a.co.cell
    | 1, hv =>
      simp at hv
      rw [← hv]
      exact a.cs.cell
    | i + 2, hv => simp at hv
theorem tx_rng {w : World} {b : Nat} {t : TxP} {h : TxH} (hw : WfT t) (R : TRng w b t h) : w.rangeAt b 0 (txC t h) := by
  unfold txC
  refine range_join (fun i v hv => ?_) ?_
  · match i, hv with
    | 0, hv => simp at hv; rw [← hv]; exact R.kind
    | 1, hv => simp at hv; rw [← hv]; exact R.height
    | 2, hv => simp at hv; rw [← hv]; exact R.i
    | 3, hv => simp at hv; rw [← hv]; exact R.o
    | 4, hv => simp at hv; rw [← hv]; exact R.f
    | i + 5, hv => simp at hv
  · refine range_join R.par ?_
    rw [parC_len h hw]
    refine range_join R.cer ?_
    rw [cerC_len h hw]
    exact R.cla
theorem LstAt.set {B Rb vb : Nat} {w1 : World} {hR : Rb < w1.heap.size} {S : Sch} {w : World} {b p M C : Nat} {rs : List (List Int)} {A : Option Addr} {c : Nat} (h : LstAt (rT B Rb vb w1 hR) S w b p rs M A c) (hb : b ≠ C) (hM : C < M) (u : Value) : LstAt (rT B Rb vb w1 hR) S (w.setCell ⟨C, 0, none⟩ u) b p rs M A c := by
  refine ⟨by simp only [World.cell?, heap_setCell_other _ _ _ _ (show b ≠ (⟨C, 0, none⟩ : Addr).block from hb)]; exact h.cell, h.le, h.mx, h.no, h.len, ?_⟩
  rcases h.row with g | ⟨g, off, e, h1, h2, h3, h4⟩
  · exact .inl g
  · have hg : M ≤ g := by
      rcases h3 with x | x
      · exact x
      · cases x
    exact .inr ⟨g, off, e, own_set h1 C 0 u, by rw [World.size_setCell]; exact h2, h3, fun j hj => range_keep1 (h4 j hj) (heap_setCell_other _ _ _ _ (by show g ≠ C; omega))⟩
theorem rng_set {w : World} {b o C : Nat} {cs : List Value} (h : w.rangeAt b o cs) (hb : b ≠ C) (u : Value) : (w.setCell ⟨C, 0, none⟩ u).rangeAt b o cs := range_keep1 h (heap_setCell_other _ _ _ _ hb)
theorem cel_set {w : World} {b o C : Nat} {v : Value} (h : w.cell? ⟨b, o, none⟩ = some v) (hb : b ≠ C) (u : Value) : (w.setCell ⟨C, 0, none⟩ u).cell? ⟨b, o, none⟩ = some v := by
  simp only [World.cell?, heap_setCell_other _ _ _ _ (show b ≠ (⟨C, 0, none⟩ : Addr).block from hb)]
  exact h
theorem TAt.set {B Rb vb : Nat} {w1 : World} {hR : Rb < w1.heap.size} {w : World} {b M C : Nat} {t : TxP} {h : TxH} (a : TAt (rT B Rb vb w1 hR) w b t h M) (hb : b ≠ C) (hM : C < M) (u : Value) : TAt (rT B Rb vb w1 hR) (w.setCell ⟨C, 0, none⟩ u) b t h M :=
  { kind := cel_set a.kind hb u, height := cel_set a.height hb u, i := a.i.set hb hM u, o := a.o.set hb hM u, f := a.f.set hb hM u, par := rng_set a.par hb u, k := a.k.set hb hM u, cer := rng_set a.cer hb u, co := a.co.set hb hM u, cs := a.cs.set hb hM u, cla := rng_set a.cla hb u, lpar := a.lpar, lcer := a.lcer, lcla := a.lcla }
theorem nol0 : NoL tx0 := ⟨rfl, rfl, rfl, rfl, rfl, rfl⟩
theorem lst0 {T : Tape} {S : Sch} {w : World} {b p : Nat} (hc : w.cell? ⟨b, p, none⟩ = some (.slice none 0 0)) : LstAt T S w b p [] 0 none 0 := ⟨hc, Nat.le_refl _, Nat.zero_le _, fun _ => rfl, fun _ h => (by cases h), .inl rfl⟩
theorem tat0 {T : Tape} {w : World} {b : Nat} (hr : w.rangeAt b 0 (txC tx0 hd0)) : TAt T w b tx0 hd0 0 := by
  have R := trng wf_tx0 hr
  have hp := R.par
  have hc := R.cer
  have hl := R.cla
  unfold parC at hp
  unfold cerC at hc
  unfold claC at hl
  have hp2 := range_app hp
  have hc2 := range_app hc
  have lp : (vals parS tx0.par).length = 3 := rfl
  have lc : (vals cerS tx0.cer).length = 19 := rfl
  rw [lp] at hp2
  rw [lc] at hc2
  exact { kind := R.kind, height := R.height, i := lst0 R.i, o := lst0 R.o, f := lst0 R.f, par := hp2.1, k := lst0 (range_cell hp2.2 (i := 0) rfl), cer := hc2.1, co := lst0 (range_cell hc2.2 (i := 0) rfl), cs := lst0 (range_cell hc2.2 (i := 1) rfl), cla := hl, lpar := rfl, lcer := rfl, lcla := rfl }
theorem lrow_far {B Rb vb : Nat} {w1 : World} {hR : Rb < w1.heap.size} {S : Sch} {w W : World} {b p M N : Nat} {rs : List (List Int)} {A : Option Addr} {c : Nat} (h : LstAt (rT B Rb vb w1 hR) S w b p rs M A c) (hN : N ≤ M) (hk : ∀ q, N ≤ q → q < w.heap.size → W.heap[q]? = w.heap[q]?) : LRow S W A rs := by
  rcases h.row with g | ⟨g, off, e, h1, h2, h3, h4⟩
  · exact .inl g
  · have hg : M ≤ g := by
      rcases h3 with x | x
      · exact x
      · cases x
    exact .inr ⟨g, off, e, fun j hj => range_keep1 (h4 j hj) (hk g (by omega) h2)⟩
theorem mem_far {B Rb vb : Nat} {w1 : World} {hR : Rb < w1.heap.size} {w : World} {b M N : Nat} {t : TxP} {h : TxH} (a : TAt (rT B Rb vb w1 hR) w b t h M) (hN : N ≤ M) (W : World) (hk : ∀ q, N ≤ q → q < w.heap.size → W.heap[q]? = w.heap[q]?) : Mem W t h :=
  ⟨lrow_far a.i hN hk, lrow_far a.o hN hk, lrow_far a.f hN hk, lrow_far a.k hN hk, lrow_far a.co hN hk, lrow_far a.cs hN hk, cap_of a.i, cap_of a.o, cap_of a.f, cap_of a.k, cap_of a.co, cap_of a.cs⟩
def Got (N vb : Nat) (t : TxP) (w : World) : Prop := ∃ h, w.rangeAt vb 0 (txC t h) ∧ (∀ W : World, (∀ q, N ≤ q → q < w.heap.size → W.heap[q]? = w.heap[q]?) → Mem W t h) ∧ vb < w.heap.size
set_option maxHeartbeats 2000000 in
theorem rClo (B Rb vb Cb N : Nat) (w : World) (bs : List Int) (hR : Rdr B w Rb bs) (hvb : vb < B) (hB : B ≤ Rb) (hC : Rb < Cb) (hC2 : w.heap.size = Cb + 1) (hN : N ≤ Cb + 1) (hbl : BL w vb (txC tx0 hd0) 39) :
    Calls Tryz.prog 50 (#[.pointer (some ⟨Rb, 0, none⟩)] ++ #[.pointer (some ⟨vb, 0, none⟩)]) w fun e w' =>
      (∀ t zs, parT bs = some (t, zs) → e = .returned (.tuple #[]) ∧ Rdr B w' Rb zs ∧ St Rb vb w w' ∧ ∀ u, Got N vb t (w'.setCell ⟨Cb, 0, none⟩ u)) ∧ (parT bs = none → Short e ∧ St Rb vb w w') := by
  have hRs : Rb < w.heap.size := by omega
  have hvs : vb < w.heap.size := bl_lt hbl
  have hby := hR.byt
  have C := Lib.hid (fFields (rT B Rb vb w hRs) w bs vb tx0 hd0 ⟨hR, St.refl _ _ _⟩ hvs ⟨by omega, .inl hvb, .inl rfl, fun i => bl_free hbl i⟩ (tat0 (range_of hbl)) (.inr nol0) (fun _ => rfl))
  rw [r_stT bs hby] at C
  show Calls Tryz.prog 50 #[.pointer (some ⟨Rb, 0, none⟩), .pointer (some ⟨vb, 0, none⟩)] w _
  have HV : Hid (vb ≠ Cb) := by show _ ≠ _; omega
  have HC2 := Lib.hid hC2
  have HVS := Lib.hid hvs
  have HN := Lib.hid hN
  clear hbl hR hvb hB hC hC2 hvs hN
  go_enter Tryz.func50, Tryz.ntmps50
  go_wp2_with fail
  refine C.out.mono ?_
  intro e w2 hpost
  have HBY := Lib.hid hby
  clear C hby
  cases hq : parT bs with
  | none =>
    rw [hq] at hpost
    obtain ⟨hse, hJ⟩ := hpost
    unfold Short at hse
    subst hse
    refine ⟨rfl, ⟨fun t zs h => ?_, fun _ => ⟨rfl, hJ⟩⟩⟩
    rw [hq] at h
    cases h
  | some p =>
    rw [hq] at hpost
    obtain ⟨rfl, hI, hC, h, hT⟩ := hpost
    have X : Hid (∀ t zs, parT bs = some (t, zs) → Rdr B w2 Rb zs ∧ St Rb vb w w2 ∧ ∀ u, Got N vb t (w2.setCell ⟨Cb, 0, none⟩ u)) := fun t zs e => by
      have e2 := e
      rw [hq] at e2
      simp only [Option.some.injEq] at e2
      subst e2
      have hw := (parT_back HBY.out hq).2
      refine ⟨hI.1, hI.2, fun u => ?_⟩
      have hS := hT.set HV.out (by rw [HC2.out]; omega) u
      obtain ⟨R, _⟩ := tat_back hS
      exact ⟨h, tx_rng hw R, mem_far hS (by rw [HC2.out]; exact HN.out), by rw [World.size_setCell]; exact Nat.lt_of_lt_of_le HVS.out hC.size⟩
    have HQ := Lib.hid hq
    clear hI hC hT hq
    go_wp2
    go_end0
    exact ⟨fun t zs e => ⟨rfl, X.out t zs e⟩, fun h => by rw [HQ.out] at h; cases h⟩
end Go.Proofs.YtffaddefnpkcgaaGreatDoor
namespace Go.Proofs.YtffaddefnpkcgaaGreatDoor
open Go.RowKit
set_option maxRecDepth 100000
theorem results_ct {fn : Func} {p u : Tmp} (h : fn.results = #[.cell p 39, .tmp u]) (tmps : Array Value) (w : World) (g : Nat) (cs : List Value) (v : Value) (hp : tmps.getD p undef = .pointer (some ⟨g, 0, none⟩)) (hr : w.rangeAt g 0 cs) (hi : (Tryz.prog.info? 39).map (·.size) = some cs.length) (hu : tmps.getD u undef = v) :
    (results fn tmps).run Tryz.prog w = .ok (.tuple #[.agg cs.toArray, v]) w := by
  rw [results_cell_tmp h, hp, hu]
  simp only [asAddr, Sem.run_pure, Result.andThen_ok, run_loadVar_mid w g 0 39 cs _ hr Tryz.underlying39 rfl hi]
attribute [local irreducible] ua da ba kk sw S8.run rt hs comp splice outB sha msg zeros win bvals vals parC cerC claC txC cel seg
def DecP (r : Int × TxP) (w : World) (e : Ending) (w' : World) : Prop := ∃ h, e = .returned (.tuple #[.agg (txC r.2 h).toArray, .int .i64 r.1]) ∧ Mem w' r.2 h ∧ WfT r.2 ∧ Below w.heap.size w w'
set_option maxHeartbeats 4000000 in
theorem tDecY (A : Option Addr) (len cap : Nat) (bs : List Int) (t : TxP) (w : World) (hs : Src w A len bs) (hc : A = none → cap = 0) (hb : Byt bs) (hl : len ≤ 131072) (hp : parT bs = some (t, [])) (hmy : mayT t = true) :
    Calls Tryz.prog 17 #[.slice A len cap] w (DecP (0, t) w) := by
  obtain ⟨S, hS⟩ : ∃ S, w.heap.size = S := ⟨_, rfl⟩
  have HS := Lib.hid hS
  have X0 : Hid (BL ((w.alloc (Obj.cells (txC tx0 hd0).toArray 39)).alloc (Obj.cells (txC tx0 hd0).toArray 39)) S (txC tx0 hd0) 39) := by
    rw [← hS]
    exact (Below.heap_alloc _ _ _ (by simp)).trans (heap_alloc_last w _)
  have X1 : Hid (BL ((w.alloc (Obj.cells (txC tx0 hd0).toArray 39)).alloc (Obj.cells (txC tx0 hd0).toArray 39)) (S + 1) (txC tx0 hd0) 39) := by
    have := heap_alloc_last (w.alloc (Obj.cells (txC tx0 hd0).toArray 39)) (Obj.cells (txC tx0 hd0).toArray 39)
    rw [World.size_alloc, hS] at this
    exact this
  have BB : Hid (Below S w ((w.alloc (Obj.cells (txC tx0 hd0).toArray 39)).alloc (Obj.cells (txC tx0 hd0).toArray 39))) := by
    rw [← hS]; exact ((Below.refl _ w).alloc (Nat.le_refl _) _).alloc (by simp) _
  have SZ : Hid (((w.alloc (Obj.cells (txC tx0 hd0).toArray 39)).alloc (Obj.cells (txC tx0 hd0).toArray 39)).heap.size = S + 2) := by show _ = _; rw [World.size_alloc, World.size_alloc, hS]
  have SR : Hid (Src ((w.alloc (Obj.cells (txC tx0 hd0).toArray 39)).alloc (Obj.cells (txC tx0 hd0).toArray 39)) A len bs) := hs.keep fun q hq => BB.out.block q (by rw [hS] at hq; exact hq)
  have HCN := Lib.hid hc
  have HBY := Lib.hid hb
  have hz := z39
  have Z0 : Hid ((Tryz.prog.info? 39).map (·.size) = some (txC tx0 hd0).length) := szL i39 (txC_len hd0 wf_tx0)
  clear hs hc hb
  go_enter Tryz.func17, Tryz.ntmps17
  go_upto_region 2 with (fail)
  generalize ((w.alloc (Obj.cells (txC tx0 hd0).toArray 39)).alloc (Obj.cells (txC tx0 hd0).toArray 39)) = v at *
  clear hz hS
  have CC : Hid (∀ Rb Cb w1, Rdr v.heap.size w1 Rb bs → v.heap.size ≤ Rb → Rb < Cb → w1.heap.size = Cb + 1 → Below v.heap.size v w1 → Calls Tryz.prog 50 (#[.pointer (some ⟨Rb, 0, none⟩)] ++ #[.pointer (some ⟨S + 1, 0, none⟩)]) w1 fun e w' =>
      (∀ t zs, parT bs = some (t, zs) → e = .returned (.tuple #[]) ∧ Rdr v.heap.size w' Rb zs ∧ St Rb (S + 1) w1 w' ∧ ∀ u, Got (S + 2) (S + 1) t (w'.setCell ⟨Cb, 0, none⟩ u)) ∧ (parT bs = none → Short e ∧ St Rb (S + 1) w1 w')) := fun Rb Cb w1 h1 h2 h3 h4 h5 =>
    rClo v.heap.size Rb (S + 1) Cb (S + 2) w1 bs h1 (by rw [SZ.out]; omega) h2 h3 h4 (by have := h5.size; rw [SZ.out] at this; omega) (bl_keep X1.out (h5.block (S + 1) (by rw [SZ.out]; omega)))
  have CF : Hid (∀ (Rb : Nat) (w : World), (callFunc 50 (#[.pointer (some ⟨Rb, 0, none⟩)] ++ #[.pointer (some ⟨S + 1, 0, none⟩)])).run Tryz.prog w = .ok (.enter 50 (#[.pointer (some ⟨Rb, 0, none⟩)] ++ #[.pointer (some ⟨S + 1, 0, none⟩)])) w) := by
    intro Rb w
    kernel_rfl
  have C := Lib.hid (wc12y 50 #[.pointer (some ⟨S + 1, 0, none⟩)] A len cap bs [] (S + 1) (Got (S + 2) (S + 1) t) v SR.out HCN.out HBY.out hl (by rw [SZ.out]; omega) CF.out (fun Rb Cb w1 h1 h2 h3 h4 h5 => (CC.out Rb Cb w1 h1 h2 h3 h4 h5).mono fun e w' h => h.1 t [] hp))
  have HW := Lib.hid (parT_back HBY.out hp).2
  rw [if_pos rfl] at C
  clear hl hp CC CF
  go_wp2_with fail
  refine C.out.mono ?_
  rintro e w3 ⟨rfl, hg, h, hr3, hm3, hs3⟩
  have X3 : Hid (BL w3 S (txC tx0 hd0) 39) := bl_keep X0.out (hg.block S (by rw [SZ.out]; omega) (by intro h; injection h with h; omega))
  have B3 : Hid (Below S w w3) := BB.out.trans ⟨hg.os, hg.tape, hg.output, hg.size, fun k hk => hg.block k (by rw [SZ.out]; omega) (by intro h; injection h with h; omega)⟩
  have HS1 := Lib.hid hs3
  have SS : Hid (S < w3.heap.size) := by show _ < _; omega
  have HG := Lib.hid hm3
  have M3 : Hid (Mem w3 t h) := hm3 w3 fun _ _ _ => rfl
  have R3 := Lib.hid hr3
  have HI := Lib.hid (szL i39 (txC_len h HW.out))
  have CM : Hid (Calls Tryz.prog 15 #[.agg (txC t h).toArray] w3 fun e w'' => e = .returned (.bool true) ∧ Below w3.heap.size w3 w'') := by
    have := tMay t h w3 HW.out M3.out
    rw [hmy] at this
    exact this
  clear hg C hr3 hm3 hs3 hmy
  go_wp2_with (first
    | (refine wpList_load_midG (by rfl) 39 (.tmp 4) rfl (S + 1) 0 rfl (txC t h) _ R3.out Tryz.underlying39 rfl HI.out ?_)
    | (go_at_call 15; refine CM.out.mono ?_; rintro e w4 ⟨rfl, hb4⟩; have B4 := Lib.hid hb4; have X4 : Hid (BL w4 S (txC tx0 hd0) 39) := Lib.hid (bl_keep X3.out (hb4.block S SS.out)); have R4 : Hid (w4.rangeAt (S + 1) 0 (txC t h)) := Lib.hid (range_keep1 R3.out (hb4.block (S + 1) HS1.out)); clear hb4)
    | (refine wpList_load_midG (by rfl) 39 (.tmp 4) rfl (S + 1) 0 rfl (txC t h) _ R4.out Tryz.underlying39 rfl HI.out ?_)
    | (refine wpList_store_rowTo rfl 39 (.tmp 2) (.tmp 17) rfl rfl S (txC t h).toArray rfl rfl 39 (txC tx0 hd0).toArray X4.out (szA i39 (txC_len _ HW.out)) (by rw [List.size_toArray, List.size_toArray, txC_len _ HW.out, txC_len _ wf_tx0]) (all_oneCell_toArray (txC_one _ _)) ?_)
    | fail)
  refine bodyPost_ret (v := .tuple #[.agg (txC t h).toArray, .int .i64 0]) (results_ct rfl _ _ S _ _ rfl (range_of (setRow_heap _ _ _ _ _ _ X4.out)) (szL i39 (txC_len _ HW.out)) rfl) rfl ?_
  refine ⟨h, rfl, HG.out _ fun q hq hq2 => ?_, HW.out, by rw [HS.out]; exact below_setRow (B3.out.trans (B4.out.mono (Nat.le_of_lt SS.out))) (Nat.le_refl _) _⟩
  rw [setRow_other _ _ _ _ (by omega)]
  exact B4.out.block q hq2
end Go.Proofs.YtffaddefnpkcgaaGreatDoor

