/-
  The Writer in memory; fail, written.
-/
import Derived.Test.YtffaddefnpkcgaaGreatDoorZB
import Derived.BigQuiet
import Derived.Deep.QuietTactic
import Derived.Deep.DrawnRows
namespace Go.Proofs.YtffaddefnpkcgaaGreatDoor
open Go.RowKit
set_option maxRecDepth 100000
def Three (w : World) (b : Nat) (x y z : Value) : Prop := w.heap[b]? = some (.cells #[x, y, z] 73 (0, 0))
theorem three_cell {w : World} {b : Nat} {x y z : Value} (h : Three w b x y z) : w.cell? ⟨b, 0, none⟩ = some x ∧ w.cell? ⟨b, 1, none⟩ = some y ∧ w.cell? ⟨b, 2, none⟩ = some z := by
  unfold Three at h
  simp [World.cell?, h]
theorem three_free {w : World} {b : Nat} {x y z : Value} (h : Three w b x y z) (i : Nat) : w.frozen? ⟨b, i, none⟩ = false := by
  unfold Three at h
  simp [World.frozen?, h]
theorem three_set0 {w : World} {b : Nat} {x y z : Value} (u : Value) (h : Three w b x y z) : Three (w.setCell ⟨b, 0, none⟩ u) b u y z := by
  unfold Three at *
  rw [heap_setCell_same w b 0 _ 73 u h]; rfl
theorem three_set1 {w : World} {b : Nat} {x y z : Value} (u : Value) (h : Three w b x y z) : Three (w.setCell ⟨b, 1, none⟩ u) b x u z := by
  unfold Three at *
  rw [heap_setCell_same w b 1 _ 73 u h]; rfl
theorem three_else {w : World} {b g : Nat} {x y z : Value} (i : Nat) (u : Value) (hne : b ≠ g) (h : Three w b x y z) : Three (w.setCell ⟨g, i, none⟩ u) b x y z := by
  unfold Three at *
  rw [heap_setCell_other w ⟨g, i, none⟩ b u hne]; exact h
structure On (base Wb Pb : Nat) (A : Option Addr) (c : Nat) (w : World) (bs : List Int) : Prop where
  bw : base ≤ Wb
  bp : base ≤ Pb
  ne : Pb ≠ Wb
  three : Three w Wb (.pointer (some ⟨Pb, 0, none⟩)) (.int .i64 bs.length) (.int .i64 0)
  one : w.heap[Pb]? = some (.cells #[.slice A bs.length c] 175 (0, 0))
  own : w.ownsRow base 5 1 (.slice A bs.length c) bs.length (bvals bs)
  aw : (Value.slice A bs.length c).ownBlock ≠ some Wb
  ap : (Value.slice A bs.length c).ownBlock ≠ some Pb
def Wr (base Wb : Nat) (w : World) (bs : List Int) : Prop := (bs = [] ∧ base ≤ Wb ∧ Three w Wb (.pointer none) (.int .i64 0) (.int .i64 0)) ∨ ∃ Pb A c, On base Wb Pb A c w bs
def Wx (base Wb : Nat) (w : World) (err : Int) : Prop := base ≤ Wb ∧ Three w Wb (.pointer none) (.int .i64 0) (.int .i64 err)
def Off (Wb : Nat) (w : World) (q : Nat) : Prop := q ≠ Wb ∧ ∀ Pb, w.cell? ⟨Wb, 0, none⟩ = some (.pointer (some ⟨Pb, 0, none⟩)) → q ≠ Pb ∧ ∀ A n c, w.cell? ⟨Pb, 0, none⟩ = some (.slice A n c) → (Value.slice A n c).ownBlock ≠ some q
def Kp (Wb : Nat) (w w' : World) : Prop := ∀ q, q < w.heap.size → Off Wb w q → w'.heap[q]? = w.heap[q]? ∧ Off Wb w' q
theorem Kp.trans {Wb : Nat} {a b c : World} (h : Kp Wb a b) (hs : a.heap.size ≤ b.heap.size) (k : Kp Wb b c) : Kp Wb a c := fun q hq ho => by
  obtain ⟨h1, h2⟩ := h q hq ho
  obtain ⟨k1, k2⟩ := k q (Nat.lt_of_lt_of_le hq hs) h2
  exact ⟨k1.trans h1, k2⟩
theorem on_own {base Wb Pb : Nat} {A : Option Addr} {c : Nat} {w : World} {bs : List Int} (h : On base Wb Pb A c w bs) : ∀ q, (Value.slice A bs.length c).ownBlock = some q → base ≤ q ∧ q < w.heap.size := fun q e => by
  refine ⟨own_base h.own q e, ?_⟩
  rcases h.own.2 with ⟨e1, _⟩ | ⟨g, cap, cur, e1, _, hg, _⟩
  · simp only [Value.slice.injEq] at e1
    rw [e1.1] at e
    simp [Value.ownBlock] at e
  · simp only [Value.slice.injEq] at e1
    rw [e1.1] at e
    simp [Value.ownBlock] at e
    rw [← e]
    exact lt_of_block hg
theorem on_off {base Wb Pb : Nat} {A : Option Addr} {c : Nat} {w : World} {bs : List Int} (h : On base Wb Pb A c w bs) {q : Nat} : Off Wb w q ↔ q ≠ Wb ∧ q ≠ Pb ∧ (Value.slice A bs.length c).ownBlock ≠ some q := by
  have h0 := (three_cell h.three).1
  have h1 := cell_of_one h.one
  constructor
  · rintro ⟨a, b⟩
    obtain ⟨b1, b2⟩ := b Pb h0
    exact ⟨a, b1, b2 _ _ _ h1⟩
  · rintro ⟨a, b, c'⟩
    refine ⟨a, fun P hP => ?_⟩
    rw [h0] at hP
    simp only [Option.some.injEq, Value.pointer.injEq, Addr.mk.injEq] at hP
    obtain ⟨rfl, _⟩ := hP
    refine ⟨b, fun A' n' c'' hc => ?_⟩
    rw [h1] at hc
    simp only [Option.some.injEq, Value.slice.injEq] at hc
    obtain ⟨rfl, e2, rfl⟩ := hc
    have e2 : bs.length = n' := e2
    rw [← e2]
    exact c'
theorem off_nil {Wb : Nat} {w : World} {y z : Value} (h : Three w Wb (.pointer none) y z) {q : Nat} : Off Wb w q ↔ q ≠ Wb := by
  have h0 := (three_cell h).1
  refine ⟨fun g => g.1, fun g => ⟨g, fun P hP => ?_⟩⟩
  rw [h0] at hP
  cases hP
theorem wr_lt {base Wb : Nat} {w : World} {bs : List Int} (h : Wr base Wb w bs) : base ≤ Wb ∧ Wb < w.heap.size := by
  rcases h with ⟨_, hb, ht⟩ | ⟨Pb, A, c, h⟩
  · exact ⟨hb, lt_of_block ht⟩
  · exact ⟨h.bw, lt_of_block h.three⟩
theorem off_low {base Wb : Nat} {w : World} {bs : List Int} (h : Wr base Wb w bs) {q : Nat} (hq : q < base) : Off Wb w q := by
  rcases h with ⟨_, hb, ht⟩ | ⟨Pb, A, c, h⟩
  · exact (off_nil ht).2 (by omega)
  · refine (on_off h).2 ⟨by have := h.bw; omega, by have := h.bp; omega, fun e => ?_⟩
    have := (on_own h q e).1
    omega
theorem off_new {base Wb : Nat} {w : World} {bs : List Int} (h : Wr base Wb w bs) {q : Nat} (hq : w.heap.size ≤ q) : Off Wb w q := by
  rcases h with ⟨_, hb, ht⟩ | ⟨Pb, A, c, h⟩
  · exact (off_nil ht).2 (by have := lt_of_block ht; omega)
  · refine (on_off h).2 ⟨by have := lt_of_block h.three; omega, by have := lt_of_block h.one; omega, fun e => ?_⟩
    have := (on_own h q e).2
    omega
theorem off_same {base Wb : Nat} {w W : World} {bs : List Int} (h : Wr base Wb w bs) (hk : ∀ k, k < w.heap.size → W.heap[k]? = w.heap[k]?) {q : Nat} (ho : Off Wb w q) : Off Wb W q := by
  have hc : ∀ b i, b < w.heap.size → W.cell? ⟨b, i, none⟩ = w.cell? ⟨b, i, none⟩ := fun b i hb => by simp only [World.cell?, hk b hb]
  refine ⟨ho.1, fun P hP => ?_⟩
  rw [hc Wb 0 (wr_lt h).2] at hP
  obtain ⟨h1, h2⟩ := ho.2 P hP
  refine ⟨h1, fun A n c he => h2 A n c ?_⟩
  have hPl : P < w.heap.size := by
    rcases h with ⟨_, hb, ht⟩ | ⟨Pb, A, c, h⟩
    · rw [(three_cell ht).1] at hP; cases hP
    · rw [(three_cell h.three).1] at hP
      simp only [Option.some.injEq, Value.pointer.injEq, Addr.mk.injEq] at hP
      rw [← hP.1]
      exact lt_of_block h.one
  rwa [hc P 0 hPl] at he
theorem Kp.same {base Wb : Nat} {w W : World} {bs : List Int} (h : Wr base Wb w bs) (hk : ∀ k, k < w.heap.size → W.heap[k]? = w.heap[k]?) : Kp Wb w W := fun q hq ho => ⟨hk q hq, off_same h hk ho⟩
theorem Kp.refl (Wb : Nat) (w : World) : Kp Wb w w := fun _ _ ho => ⟨rfl, ho⟩
theorem wc37n (Wb : Nat) (y z : Value) (w : World) (h : Three w Wb (.pointer none) y z) :
    Calls Tryz.prog 69 #[.pointer (some ⟨Wb, 0, none⟩)] w fun e w' => e = .returned (.slice none 0 0) ∧ w = w' := by
  obtain ⟨h0, _, _⟩ := three_cell h
  clear h
  go_enter Tryz.func69, Tryz.ntmps69
  go_wp2
  go_ret
  exact ⟨rfl, rfl⟩
theorem wc37 (base Wb Pb : Nat) (A : Option Addr) (c : Nat) (bs : List Int) (w : World) (h : On base Wb Pb A c w bs) :
    Calls Tryz.prog 69 #[.pointer (some ⟨Wb, 0, none⟩)] w fun e w' => e = .returned (.slice A bs.length c) ∧ ∃ n, w' = w.drewN n := by
  obtain ⟨h0, h1, h2⟩ := three_cell h.three
  have h3 := cell_of_one h.one
  obtain ⟨_, _, e, _, _, hcap⟩ := own_row h.own
  obtain ⟨l, hl⟩ : ∃ l, bs.length = l := ⟨_, rfl⟩
  have hm : c ≤ 9223372036854775807 := by
    rcases h.own.2 with ⟨h4, _⟩ | ⟨g, cap, cur, h4, _, _, _, h5, _⟩
    · simp only [Value.slice.injEq] at h4; omega
    · simp only [Value.slice.injEq] at h4; unfold maxLen at h5; omega
  simp only [Value.slice.injEq] at e
  obtain ⟨rfl, _, rfl⟩ := e
  rw [hl] at hcap h1 h3 ⊢
  have hb1 : (0 : Int) ≤ (l : Int) := by omega
  have hb2 : (l : Int) ≤ (c : Int) := by omega
  clear h hl
  go_enter Tryz.func69, Tryz.ntmps69
  go_wp2
  go_quiet (fail)
  go_wp2
  go_ret
  exact ⟨rfl, _, rfl⟩
end Go.Proofs.YtffaddefnpkcgaaGreatDoor
namespace Go.Proofs.YtffaddefnpkcgaaGreatDoor
open Go.RowKit
set_option maxRecDepth 100000
attribute [local go_sem ↓] Go.wp_at_zero Go.wp_at_succ
theorem three_grown {w w' : World} {b : Nat} {x y z : Value} {row : Option Nat} (hg : w.grownBy w' row) (hne : some b ≠ row) (h : Three w b x y z) : Three w' b x y z := by
  have hlt : b < w.heap.size := lt_of_block h
  unfold Three at *
  rw [hg.block b hlt hne]; exact h
theorem On.more {base Wb Pb : Nat} {A A' : Option Addr} {c c' m : Nat} {w w1 : World} {bs ys : List Int} (h : On base Wb Pb A c w bs) (hl : ys.length = m)
    (hown : w1.ownsRow base 5 1 (.slice A' (bs.length + m) c') (bs.length + m) (bvals (bs ++ ys))) (hg : w.grownBy w1 (Value.slice A bs.length c).ownBlock)
    (hat : (Value.slice A' (bs.length + m) c').ownBlock = (Value.slice A bs.length c).ownBlock ∨ (Value.slice A' (bs.length + m) c').ownBlock = some w.heap.size) :
    On base Wb Pb A' c' ((w1.setCell ⟨Pb, 0, none⟩ (.slice A' (bs.length + m) c')).setCell ⟨Wb, 1, none⟩ (.int .i64 ((bs.length : Int) + m))) (bs ++ ys) ∧
      Below base w ((w1.setCell ⟨Pb, 0, none⟩ (.slice A' (bs.length + m) c')).setCell ⟨Wb, 1, none⟩ (.int .i64 ((bs.length : Int) + m))) ∧ Kp Wb w ((w1.setCell ⟨Pb, 0, none⟩ (.slice A' (bs.length + m) c')).setCell ⟨Wb, 1, none⟩ (.int .i64 ((bs.length : Int) + m))) := by
  have hW : Wb < w.heap.size := lt_of_block h.three
  have hP : Pb < w.heap.size := lt_of_block h.one
  have aw : (Value.slice A' (bs.length + m) c').ownBlock ≠ some Wb := by
    rcases hat with e | e <;> rw [e]
    · exact h.aw
    · simp; omega
  have ap : (Value.slice A' (bs.length + m) c').ownBlock ≠ some Pb := by
    rcases hat with e | e <;> rw [e]
    · exact h.ap
    · simp; omega
  have hlen : (bs ++ ys).length = bs.length + m := by rw [List.length_append, hl]
  have e : (((bs ++ ys).length : Nat) : Int) = (bs.length : Int) + m := by rw [hlen]; simp
  have ht := three_grown hg (Ne.symm h.aw) h.three
  have ho : w1.heap[Pb]? = some (.cells #[.slice A bs.length c] 175 (0, 0)) := (hg.block Pb hP (Ne.symm h.ap)).trans h.one
  have hbase : base ≤ w.heap.size := Nat.le_trans h.bw (Nat.le_of_lt hW)
  have HO : On base Wb Pb A' c' ((w1.setCell ⟨Pb, 0, none⟩ (.slice A' (bs.length + m) c')).setCell ⟨Wb, 1, none⟩ (.int .i64 ((bs.length : Int) + m))) (bs ++ ys) := by
    refine ⟨h.bw, h.bp, h.ne, ?_, ?_, ?_, ?_, ?_⟩
    · rw [e]; exact three_set1 _ (three_else 0 _ (Ne.symm h.ne) ht)
    · rw [hlen, Below.heap_setCell _ _ _ _ h.ne]; exact one_setCell ho
    · rw [hlen]; exact ownsRow_setCell_other (ownsRow_setCell_other hown ap _) aw _
    · rw [hlen]; exact aw
    · rw [hlen]; exact ap
  refine ⟨HO, (((Below.refl base w).grown hg hbase (own_base h.own)).setCell h.bp _).setCell h.bw _, fun q hq hoff => ?_⟩
  obtain ⟨o1, o2, o3⟩ := (on_off h).1 hoff
  refine ⟨?_, (on_off HO).2 ⟨o1, o2, ?_⟩⟩
  · rw [Below.heap_setCell _ _ _ _ o1, Below.heap_setCell _ _ _ _ o2]
    exact hg.block q hq (fun e => o3 e.symm)
  · rw [hlen]
    rcases hat with e | e <;> rw [e]
    · exact o3
    · simp; omega
theorem On.drew {base Wb Pb : Nat} {A : Option Addr} {c : Nat} {w : World} {bs : List Int} (h : On base Wb Pb A c w bs) : On base Wb Pb A c w.drew bs :=
  ⟨h.bw, h.bp, h.ne, h.three, h.one, own_keep h.own (fun _ _ => rfl), h.aw, h.ap⟩
theorem On.drewN {base Wb Pb : Nat} {A : Option Addr} {c : Nat} {w : World} {bs : List Int} (h : On base Wb Pb A c w bs) (n : Nat) : On base Wb Pb A c (w.drewN n) bs :=
  ⟨h.bw, h.bp, h.ne, h.three, h.one, own_keep h.own (fun _ _ => rfl), h.aw, h.ap⟩
set_option maxHeartbeats 1000000 in
theorem wc34o (base Wb Pb : Nat) (A0 : Option Addr) (wc0 : Nat) (bs : List Int) (A : Option Addr) (m c : Nat) (ys : List Int) (w : World) (h : On base Wb Pb A0 wc0 w bs) (hs : Src w A m ys) (hc : A = none → c = 0) (hl : bs.length + m ≤ 131072) :
    Calls Tryz.prog 157 #[.pointer (some ⟨Wb, 0, none⟩), .slice A m c] w fun e w' => e = .returned (.tuple #[]) ∧ (∃ A1 wc1, On base Wb Pb A1 wc1 w' (bs ++ ys)) ∧ Below base w w' ∧ Kp Wb w w' := by
  obtain ⟨i0, hi, hz0, hz1, hz2⟩ := info_parts info5
  obtain ⟨h0, h1, h2⟩ := three_cell h.three
  have h3 := cell_of_one h.one
  have f1 := three_free h.three 1
  have fp := free_of_one h.one
  obtain ⟨l, hl'⟩ : ∃ l, bs.length = l := ⟨_, rfl⟩
  have H := Lib.hid h
  have HL := Lib.hid hl'
  have HS := Lib.hid hs
  have HCN := Lib.hid hc
  rw [hl'] at h1 h3 hl
  have hne : Wb ≠ Pb := Ne.symm h.ne
  have hlt : ¬ (131072 - (l : Int)) < (m : Int) := by omega
  have hd : decide ((l : Int) < (l : Int)) = false := by simp
  have HI := Lib.hid hi
  have HI0 := Lib.hid hz0
  have HI1 := Lib.hid hz1
  have HI2 := Lib.hid hz2
  have HB : Hid (base ≤ w.heap.size) := Nat.le_trans h.bw (Nat.le_of_lt (lt_of_block h.three))
  clear hi hz0 hz1 hz2 h hs hc hl'
  go_enter Tryz.func157, Tryz.ntmps157
  go_wp2_with fail
  go_quiet (fail)
  go_wp2
  clear h0 h1 h2 h3 f1 fp
  generalize hq : w.drewN _ = wq
  have H2 : Hid (On base Wb Pb A0 wc0 wq bs) := by rw [← hq]; exact H.out.drewN _
  have S2 : Hid (Src wq A m ys) := by rw [← hq]; exact HS.out.keep (fun _ _ => rfl)
  have B2 : Hid (base ≤ wq.heap.size) := by rw [← hq]; exact HB.out
  have Q2 : Hid (∀ W', Below base wq W' → Below base w W') := fun W' h => by rw [← hq] at h; exact (Below.refl base w).trans ⟨h.os, h.tape, h.output, h.size, h.block⟩
  have K2 : Hid (∀ W', Kp Wb wq W' → Kp Wb w W') := fun W' h => by rw [← hq] at h; exact h
  clear hq
  clear H HS HB
  obtain ⟨h0, h1, h2⟩ := three_cell H2.out.three
  have h3 := cell_of_one H2.out.one
  have S3 : Hid (Src wq.drew A m ys) := S2.out.keep (fun _ _ => rfl)
  have H3 : Hid (On base Wb Pb A0 wc0 wq.drew bs) := H2.out.drew
  have hll := HL.out
  have HO : Hid (wq.drew.ownsRow base 5 1 (.slice A0 l wc0) l (bvals bs)) := by rw [← hll]; exact H3.out.own
  rw [hll] at h1 h3
  clear hll
  go_region_law
    ((refine step_app rfl (.tmp 61) (.tmp 62) 42 rfl i0 Tryz.underlying42 HI.out HI0.out HI1.out HI2.out base l (.slice A0 l wc0) bs (by simp [Act.eval]) HO.out A m c ys (by simp [Act.eval]) S3.out HCN.out (by unfold maxLen; omega) (by omega) B2.out ?_; intro A1 wc1 w1 hown hg hat; have OW := Lib.hid hown; have GR := Lib.hid hg; have AT := Lib.hid hat; have q0 := three_cell (three_grown hg (by have := H3.out.aw; rw [HL.out] at this; exact Ne.symm this) H3.out.three); have q3 := three_free (three_grown hg (by have := H3.out.aw; rw [HL.out] at this; exact Ne.symm this) H3.out.three) 1; have q1 := (hg.block Pb (lt_of_block H3.out.one) (by have := H3.out.ap; rw [HL.out] at this; exact Ne.symm this)).trans H3.out.one; rw [HL.out] at q1; rw [HL.out] at q0; have q2 := cell_of_one q1; have q4 := free_of_one q1; clear hown hg hat q1))
  all_goals
    go_wp2
    go_end0
    obtain rfl := HL.out
    have M := H3.out.more S3.out.1 OW.out GR.out AT.out
    exact ⟨rfl, ⟨_, _, M.1⟩, Q2.out _ ((Below.refl base wq).drew.trans M.2.1), K2.out _ M.2.2⟩
end Go.Proofs.YtffaddefnpkcgaaGreatDoor
namespace Go.Proofs.YtffaddefnpkcgaaGreatDoor
open Go.RowKit
set_option maxRecDepth 100000
attribute [local go_sem ↓] Go.wp_at_zero Go.wp_at_succ
theorem on_first' {base Wb : Nat} {w : World} (hb : base ≤ Wb) (h : Three w Wb (.pointer none) (.int .i64 0) (.int .i64 0)) :
    On base Wb w.heap.size none 0 ((w.setCell ⟨Wb, 0, none⟩ (.pointer (some ⟨w.heap.size, 0, none⟩))).alloc (Obj.cells #[.slice none 0 0] 175)) [] := by
  have hW : Wb < w.heap.size := lt_of_block h
  have hs : (w.setCell ⟨Wb, 0, none⟩ (.pointer (some ⟨w.heap.size, 0, none⟩))).heap.size = w.heap.size := by simp [World.setCell]
  have ht := three_set0 (.pointer (some ⟨w.heap.size, 0, none⟩)) h
  refine ⟨hb, by omega, by omega, ?_, ?_, own_nil _ _, by simp [Value.ownBlock], by simp [Value.ownBlock]⟩
  · unfold Three at *
    rw [Below.heap_alloc _ _ Wb (by rw [hs]; exact hW)]
    exact ht
  · have := heap_alloc_new (w.setCell ⟨Wb, 0, none⟩ (.pointer (some ⟨w.heap.size, 0, none⟩))) (Obj.cells #[.slice none 0 0] 175)
    rwa [hs] at this
theorem three_no8 {w : World} {b i : Nat} {p : Option Addr} {x y z : Int} (h : Three w b (.pointer p) (.int .i64 x) (.int .i64 y)) (hc : w.cell? ⟨b, i, none⟩ = some (.int .u8 z)) : False := by
  unfold Three at h
  rw [cell_of_row w b i _ 73 (0, 0) h] at hc
  match i with
  | 0 => simp at hc
  | 1 => simp at hc
  | 2 => simp at hc
  | n + 3 => simp at hc
theorem src_three {w w1 : World} {b i : Nat} {p : Option Addr} {x y : Int} {A : Option Addr} {m : Nat} {ys : List Int} (u : Value) (hk : ∀ k, k < w.heap.size → w1.heap[k]? = w.heap[k]?) (h : Three w b (.pointer p) (.int .i64 x) (.int .i64 y)) (hs : Src w A m ys) :
    Src (w1.setCell ⟨b, i, none⟩ u) A m ys := by
  refine ⟨hs.1, ?_⟩
  rcases hs.2 with h2 | ⟨g, off, e, hc⟩
  · exact .inl h2
  · refine .inr ⟨g, off, e, fun j hj => ?_⟩
    have h0 := World.block_lt_of_cell? w ⟨g, off + j, none⟩ (hc j hj)
    have hne : g ≠ b := fun e => by subst e; exact three_no8 h (hc j hj)
    rw [World.cell?_of_block (w := w) (a := ⟨g, off + j, none⟩) ((Below.heap_setCell _ _ _ _ hne).trans (hk g h0))]
    exact hc j hj
set_option maxHeartbeats 1000000 in
theorem wc34n (base Wb : Nat) (A : Option Addr) (m c : Nat) (ys : List Int) (w : World) (hb : base ≤ Wb) (h : Three w Wb (.pointer none) (.int .i64 0) (.int .i64 0)) (hs : Src w A m ys) (hc : A = none → c = 0) (hl : m ≤ 131072) :
    Calls Tryz.prog 157 #[.pointer (some ⟨Wb, 0, none⟩), .slice A m c] w fun e w' => e = .returned (.tuple #[]) ∧ (∃ Pb A1 wc1, On base Wb Pb A1 wc1 w' ys) ∧ Below base w w' ∧ Kp Wb w w' := by
  obtain ⟨i0, hi, hz0, hz1, hz2⟩ := info_parts info5
  obtain ⟨h0, h1, h2⟩ := three_cell h
  have f0 := three_free h 0
  have H := Lib.hid h
  have HS := Lib.hid hs
  have HCN := Lib.hid hc
  have HBW := Lib.hid hb
  have hlt : ¬ (131072 : Int) < (m : Int) := by omega
  have HI := Lib.hid hi
  have HI0 := Lib.hid hz0
  have HI1 := Lib.hid hz1
  have HI2 := Lib.hid hz2
  have HB : Hid (base ≤ w.heap.size) := Nat.le_trans hb (Nat.le_of_lt (lt_of_block h))
  clear hi hz0 hz1 hz2 h hs hc hb
  go_enter Tryz.func157, Tryz.ntmps157
  go_wp2_with fail
  go_quiet (fail)
  generalize hq : w.drewN _ = wq
  have H2 : Hid (Three wq Wb (.pointer none) (.int .i64 0) (.int .i64 0)) := by rw [← hq]; exact H.out
  have S2 : Hid (Src wq A m ys) := by rw [← hq]; exact HS.out.keep (fun _ _ => rfl)
  have B2 : Hid (base ≤ wq.heap.size) := by rw [← hq]; exact HB.out
  have Q2 : Hid (∀ W', Below base wq W' → Below base w W') := fun W' h => by rw [← hq] at h; exact (Below.refl base w).trans ⟨h.os, h.tape, h.output, h.size, h.block⟩
  have K2 : Hid (∀ W', Kp Wb wq W' → Kp Wb w W') := fun W' h => by rw [← hq] at h; exact h
  clear hq h0 h1 h2 f0 H HS HB
  obtain ⟨h0, h1, h2⟩ := three_cell H2.out
  have f0 := three_free H2.out 0
  have C := Lib.hid (wc37n Wb _ _ wq H2.out)
  have hw1 : Wb < wq.heap.size := lt_of_block H2.out
  have hne : ¬ wq.heap.size = Wb := by omega
  have hbuild : ∀ w : World, (Instr.build 175 #[(0, .slice none 0 0)]).run Tryz.prog w = .ok (.agg #[.slice none 0 0]) w := fun w => run_build w 175 _ _ (by kernel_rfl)
  go_wp2_with (first | (go_at_call 69; refine C.out.mono ?_; rintro e w' ⟨rfl, rfl⟩) | (go_at_call 68; refine (wc33n _).mono ?_; rintro e w' ⟨rfl, rfl⟩))
  have O5 := Lib.hid (on_first' HBW.out H2.out)
  have S5 : Hid (Src ((wq.setCell ⟨Wb, 0, none⟩ (.pointer (some ⟨wq.heap.size, 0, none⟩))).alloc (Obj.cells #[.slice none 0 0] 175)) A m ys) :=
    (src_three (w1 := wq) _ (fun _ _ => rfl) H2.out S2.out).keep (fun k hk => Below.heap_alloc _ _ k hk)
  have Q5 : Hid (∀ W', Below base ((wq.setCell ⟨Wb, 0, none⟩ (.pointer (some ⟨wq.heap.size, 0, none⟩))).alloc (Obj.cells #[.slice none 0 0] 175)) W' → Below base w W') := fun W' h => Q2.out W' ((((Below.refl base wq).setCell HBW.out _).alloc (by simpa [World.setCell] using B2.out) _).trans h)
  have K5 : Hid (∀ W', Kp Wb ((wq.setCell ⟨Wb, 0, none⟩ (.pointer (some ⟨wq.heap.size, 0, none⟩))).alloc (Obj.cells #[.slice none 0 0] 175)) W' → Kp Wb w W') := fun W' h => K2.out W' (Kp.trans (fun q hq hoff => by
    have o1 := (off_nil H2.out).1 hoff
    refine ⟨?_, (on_off O5.out).2 ⟨o1, by omega, by simp [Value.ownBlock]⟩⟩
    rw [Below.heap_alloc _ _ q (by simpa [World.setCell] using hq)]
    exact Below.heap_setCell _ _ _ _ o1) (by simp [World.setCell]) h)
  have Z5 : Hid (wq.heap.size ≠ Wb) := hne
  have B5 : Hid (base ≤ ((wq.setCell ⟨Wb, 0, none⟩ (.pointer (some ⟨wq.heap.size, 0, none⟩))).alloc (Obj.cells #[.slice none 0 0] 175)).heap.size) := by
    show base ≤ _
    have h : base ≤ wq.heap.size := B2.out
    simp [World.setCell]
    omega
  clear C Q2 K2 H2 S2 B2 h0 h1 h2 f0 hne hw1
  generalize ((wq.setCell ⟨Wb, 0, none⟩ (.pointer (some ⟨wq.heap.size, 0, none⟩))).alloc (Obj.cells #[.slice none 0 0] 175)) = wr at *
  generalize wq.heap.size = Pb at *
  obtain ⟨h0, h1, h2⟩ := three_cell O5.out.three
  have h3 := cell_of_one O5.out.one
  have hne := Ne.symm Z5.out
  have S3 : Hid (Src wr.drew A m ys) := S5.out.keep (fun _ _ => rfl)
  have H3 : Hid (On base Wb Pb none 0 wr.drew []) := O5.out.drew
  have HO : Hid (wr.drew.ownsRow base 5 1 (.slice none 0 0) 0 (bvals [])) := H3.out.own
  rw [List.length_nil] at h1 h3
  go_region_law
    ((refine step_app rfl (.tmp 61) (.tmp 62) 42 rfl i0 Tryz.underlying42 HI.out HI0.out HI1.out HI2.out base 0 (.slice none 0 0) [] (by simp [Act.eval]) HO.out A m c ys (by simp [Act.eval]) S3.out HCN.out (by unfold maxLen; omega) (by omega) B5.out ?_; intro A1 wc1 w1 hown hg hat; have OW := Lib.hid hown; have GR := Lib.hid hg; have AT := Lib.hid hat; have q0 := three_cell (three_grown hg (Ne.symm H3.out.aw) H3.out.three); have q3 := three_free (three_grown hg (Ne.symm H3.out.aw) H3.out.three) 1; have q1 := (hg.block Pb (lt_of_block H3.out.one) (Ne.symm H3.out.ap)).trans H3.out.one; rw [List.length_nil] at q0; rw [List.length_nil] at q1; have q2 := cell_of_one q1; have q4 := free_of_one q1; clear hown hg hat q1))
  all_goals
    go_wp2
    go_end0
    have M := H3.out.more S3.out.1 OW.out GR.out AT.out
    simp only [List.length_nil, Nat.zero_add, List.nil_append, Int.natCast_zero, Int.zero_add] at M
    exact ⟨rfl, ⟨_, _, _, M.1⟩, Q5.out _ ((Below.refl base wr).drew.trans M.2.1), K5.out _ M.2.2⟩
end Go.Proofs.YtffaddefnpkcgaaGreatDoor
namespace Go.Proofs.YtffaddefnpkcgaaGreatDoor
open Go.RowKit
set_option maxRecDepth 100000
attribute [local go_sem ↓] Go.wp_at_zero Go.wp_at_succ
theorem wc34 (base Wb : Nat) (bs : List Int) (A : Option Addr) (m c : Nat) (ys : List Int) (w : World) (h : Wr base Wb w bs) (hs : Src w A m ys) (hc : A = none → c = 0) (hl : bs.length + m ≤ 131072) :
    Calls Tryz.prog 157 #[.pointer (some ⟨Wb, 0, none⟩), .slice A m c] w fun e w' => e = .returned (.tuple #[]) ∧ Wr base Wb w' (bs ++ ys) ∧ Below base w w' ∧ Kp Wb w w' := by
  rcases h with ⟨rfl, hb, ht⟩ | ⟨Pb, A0, wc0, ho⟩
  · exact (wc34n base Wb A m c ys w hb ht hs hc (by simpa using hl)).mono fun _ _ h => ⟨h.1, .inr (by simpa using h.2.1), h.2.2⟩
  · exact (wc34o base Wb Pb A0 wc0 bs A m c ys w ho hs hc hl).mono fun _ _ h => ⟨h.1, .inr ⟨Pb, h.2.1⟩, h.2.2⟩
theorem Wr.keep {base Wb : Nat} {w W : World} {bs : List Int} (h : Wr base Wb w bs) (hk : ∀ k, k < w.heap.size → W.heap[k]? = w.heap[k]?) : Wr base Wb W bs := by
  rcases h with ⟨h1, h2, h3⟩ | ⟨Pb, A, c, h⟩
  · exact .inl ⟨h1, h2, (hk Wb (lt_of_block h3)).trans h3⟩
  · exact .inr ⟨Pb, A, c, h.bw, h.bp, h.ne, (hk Wb (lt_of_block h.three)).trans h.three, (hk Pb (lt_of_block h.one)).trans h.one, own_keep h.own (fun q hq => hk q (own_lt h.own q hq)), h.aw, h.ap⟩
theorem Wx.keep {base Wb : Nat} {w W : World} {err : Int} (h : Wx base Wb w err) (hk : ∀ k, k < w.heap.size → W.heap[k]? = w.heap[k]?) : Wx base Wb W err :=
  ⟨h.1, (hk Wb (lt_of_block h.2)).trans h.2⟩
theorem wr_three {base Wb : Nat} {w : World} {bs : List Int} (h : Wr base Wb w bs) : base ≤ Wb ∧ ∃ x, Three w Wb x (.int .i64 bs.length) (.int .i64 0) := by
  rcases h with ⟨rfl, hb, ht⟩ | ⟨Pb, A0, wc0, ho⟩
  · exact ⟨hb, _, ht⟩
  · exact ⟨ho.bw, _, ho.three⟩
theorem numOk (n : Int) (k : Nat) (_hk : k ≤ 7) : n / 2 ^ (8 * k) = 0 ↔ 0 ≤ n ∧ n < 2 ^ (8 * k) := by
  have hp := pow_pos8 k
  constructor
  · intro h
    have h1 := Int.emod_add_mul_ediv n (2 ^ (8 * k))
    have h2 := Int.emod_nonneg n (show (2 : Int) ^ (8 * k) ≠ 0 by omega)
    have h3 := Int.emod_lt_of_pos n hp
    rw [h] at h1
    simp at h1
    omega
  · rintro ⟨h1, h2⟩
    exact Int.ediv_eq_zero_of_lt h1 h2
theorem wc26y (base Wb k : Nat) (n : Int) (bs : List Int) (w : World) (h : Wr base Wb w bs) (hk1 : 1 ≤ k) (hk7 : k ≤ 7) (hn0 : 0 ≤ n) (hn1 : n < 2 ^ (8 * k)) (hl : bs.length + k ≤ 131072) :
    Calls Tryz.prog 152 #[.pointer (some ⟨Wb, 0, none⟩), .int .i64 n, .int .i64 k] w fun e w' => e = .returned (.tuple #[]) ∧ Wr base Wb w' (bs ++ digs n k) ∧ Below base w w' ∧ Kp Wb w w' := by
  obtain ⟨hb, x, ht⟩ := wr_three h
  obtain ⟨h0, h1, h2⟩ := three_cell ht
  have hz := (numOk n k hk7).2 ⟨hn0, hn1⟩
  have h8 : (8 * (k : Int)).toNat = 8 * k := by omega
  have hmin : min (8 * k) 64 = 8 * k := by omega
  have HW := Lib.hid h
  clear h hb ht
  go_enter Tryz.func152, Tryz.ntmps152
  go_wp2_with fail
  refine (wc35 n k _ hk7).mono ?_
  rintro e w1 ⟨rfl, hown, hb1⟩
  have S1 : Hid (Src w1 (some ⟨w.heap.size, 0, none⟩) k (digs n k)) := by
    obtain ⟨A, c, e, h1, h2, _⟩ := own_row hown
    simp only [Value.slice.injEq] at e
    obtain ⟨rfl, _, rfl⟩ := e
    exact src_row h2 h1
  have W1 : Hid (Wr base Wb w1 bs) := HW.out.keep hb1.block
  have B1 : Hid (Below base w w1) := hb1.mono (by obtain ⟨hb, x, ht⟩ := wr_three HW.out; exact Nat.le_trans hb (Nat.le_of_lt (lt_of_block ht)))
  have K1 : Hid (Kp Wb w w1) := Kp.same HW.out hb1.block
  have S1w : Hid (w.heap.size ≤ w1.heap.size) := hb1.size
  clear hown hb1 h0 h1 h2
  go_wp2_with fail
  refine (wc34 base Wb bs _ k k (digs n k) w1 W1.out S1.out (fun h => by cases h) hl).mono ?_
  rintro e w2 ⟨rfl, hw2, hb2, hk2⟩
  have W2 := Lib.hid hw2
  have B2 := Lib.hid (B1.out.trans hb2)
  have K2 := Lib.hid (K1.out.trans S1w.out hk2)
  clear hw2 hb2 hk2
  go_wp2
  go_end0
  exact ⟨rfl, W2.out, B2.out, K2.out⟩
end Go.Proofs.YtffaddefnpkcgaaGreatDoor
namespace Go.Proofs.YtffaddefnpkcgaaGreatDoor
open Go.RowKit
set_option maxRecDepth 100000
attribute [local go_sem ↓] Go.wp_at_zero Go.wp_at_succ
def hval (h : List Int) : Value := .agg (bvals h).toArray
theorem len8 {h : List Int} (hl : h.length = 8) : ∃ a b c d e f g i, h = [a, b, c, d, e, f, g, i] := by
  match h, hl with
  | [a, b, c, d, e, f, g, i], _ => exact ⟨a, b, c, d, e, f, g, i, rfl⟩
theorem src_hash (w : World) (h : List Int) (hl : h.length = 8) : Src (w.alloc (Obj.cells (bvals h).toArray 29)) (some ⟨w.heap.size, 0, none⟩) 8 h := by
  refine ⟨hl, .inr ⟨w.heap.size, 0, rfl, fun i hi => ?_⟩⟩
  rw [cell_of_row _ w.heap.size (0 + i) _ 29 (0, 0) (heap_alloc_new w _), Nat.zero_add]
  simp [bvals, List.getD, show i < h.length by omega]
theorem wc24 (base Wb : Nat) (bs h : List Int) (w : World) (hw : Wr base Wb w bs) (hl8 : h.length = 8) (hl : bs.length + 8 ≤ 131072) :
    Calls Tryz.prog 155 #[.pointer (some ⟨Wb, 0, none⟩), hval h] w fun e w' => e = .returned (.tuple #[]) ∧ Wr base Wb w' (bs ++ h) ∧ Below base w w' ∧ Kp Wb w w' := by
  have S := Lib.hid (src_hash w h hl8)
  have W1 : Hid (Wr base Wb (w.alloc (Obj.cells (bvals h).toArray 29)) bs) := hw.keep (fun k hk => Below.heap_alloc w _ k hk)
  have B1 : Hid (Below base w (w.alloc (Obj.cells (bvals h).toArray 29))) := by
    obtain ⟨hb, x, ht⟩ := wr_three hw
    exact (Below.refl base w).alloc (Nat.le_trans hb (Nat.le_of_lt (lt_of_block ht))) _
  have C := Lib.hid (wc34 base Wb bs (some ⟨w.heap.size, 0, none⟩) 8 8 h _ W1.out S.out (fun h => by cases h) hl)
  have K1 : Hid (Kp Wb w (w.alloc (Obj.cells (bvals h).toArray 29))) := Kp.same hw (fun k hk => Below.heap_alloc w _ k hk)
  obtain ⟨a, b, c, d, e, f, g, i, rfl⟩ := len8 hl8
  clear hw
  unfold hval
  simp only [bvals, List.map_cons, List.map_nil] at C B1 K1 ⊢
  go_enter Tryz.func155, Tryz.ntmps155
  go_wp2_with (go_at_call 157; refine C.out.mono ?_; rintro e w' ⟨rfl, h3, h4, h5⟩; have H3 := Lib.hid h3; have H4 := Lib.hid h4; have H5 := Lib.hid h5; clear h3 h4 h5)
  go_end0
  exact ⟨rfl, H3.out, B1.out.trans H4.out, K1.out.trans (by simp) H5.out⟩
theorem wc27x (base Wb : Nat) (err : Int) (w : World) (hw : Wx base Wb w err) :
    Calls Tryz.prog 30 #[.pointer (some ⟨Wb, 0, none⟩)] w fun e w' => e = .returned (.tuple #[.slice none 0 0, .int .i64 err]) ∧ Below base w w' := by
  obtain ⟨h0, h1, h2⟩ := three_cell hw.2
  have C := Lib.hid (fun n => wc37n Wb _ _ (w.drewN n) hw.2)
  clear hw
  go_enter Tryz.func30, Tryz.ntmps30
  go_wp2_with fail
  go_region_with (first | (go_at_call 69; refine (C.out 1).mono ?_; rintro e w' ⟨rfl, rfl⟩) | (go_at_call 68; refine (wc33n _).mono ?_; rintro e w' ⟨rfl, rfl⟩))
  all_goals
    go_wp2
    go_ret2
    exact ⟨rfl, ⟨rfl, rfl, rfl, Nat.le_refl _, fun _ _ => rfl⟩⟩
theorem own_le {w : World} {base n c : Nat} {A : Option Addr} {xs : List Value} (h : w.ownsRow base 5 1 (.slice A n c) n xs) : c ≤ 9223372036854775807 := by
  rcases h.2 with ⟨e, _⟩ | ⟨g, cap, cur, e, _, hg, _, hm, _⟩
  · simp only [Value.slice.injEq] at e
    omega
  · simp only [Value.slice.injEq] at e
    unfold maxLen at hm
    omega
theorem wc27 (base Wb : Nat) (bs : List Int) (w : World) (hw : Wr base Wb w bs) (hl : bs.length ≤ 131072) :
    Calls Tryz.prog 30 #[.pointer (some ⟨Wb, 0, none⟩)] w fun e w' => (∃ A c, e = .returned (.tuple #[.slice A bs.length c, .int .i64 0]) ∧ Row w' A bs ∧ bs.length ≤ c ∧ (A = none → c = 0) ∧ c ≤ 9223372036854775807) ∧ Below base w w' := by
  rcases hw with ⟨rfl, hb, ht⟩ | ⟨Pb, A, c, ho⟩
  · exact (wc27x base Wb 0 w ⟨hb, ht⟩).mono fun _ _ h => ⟨⟨none, 0, h.1, .inl rfl, Nat.le_refl _, fun _ => rfl, by decide⟩, h.2⟩
  obtain ⟨h0, h1, h2⟩ := three_cell ho.three
  have C := Lib.hid (fun n => wc37 base Wb Pb A c bs (w.drewN n) (ho.drewN n))
  have S := Lib.hid (fun n => (src_own (ho.drewN n).own))
  have HB : Hid (base ≤ w.heap.size) := Nat.le_trans ho.bw (Nat.le_of_lt (lt_of_block ho.three))
  have HL := Lib.hid (lt_of_block ho.three)
  have HO := Lib.hid ho
  clear ho
  cases A with
  | none =>
    obtain rfl : c = 0 := (S.out 0).2.2.1 rfl
    have hz : bs.length = 0 := by
      have := HO.out.own.2
      rcases this with ⟨_, h⟩ | ⟨g, cap, cur, e, _⟩
      · exact h
      · cases e
    rw [hz] at C ⊢
    have hbs := List.eq_nil_of_length_eq_zero hz
    clear hz
    go_enter Tryz.func30, Tryz.ntmps30
    go_wp2_with fail
    go_region_with (first | (go_at_call 69; refine (C.out 1).mono ?_; rintro e w' ⟨rfl, n, rfl⟩) | (go_at_call 68; refine (wc33n _).mono ?_; rintro e w' ⟨rfl, rfl⟩))
    all_goals
      go_wp2
      go_ret2
      exact ⟨⟨none, 0, rfl, .inl hbs, Nat.le_refl _, fun _ => rfl, by decide⟩, ⟨rfl, rfl, rfl, Nat.le_refl _, fun _ _ => rfl⟩⟩
  | some ad =>
    go_enter Tryz.func30, Tryz.ntmps30
    go_wp2_with fail
    go_region_held3 (fun w' => w'.cell? ⟨Wb, 2, none⟩ = some (.int .i64 0)) (go_keep) (first | (go_at_call 69; refine (C.out 1).mono ?_; rintro e w' ⟨rfl, n, rfl⟩) | (go_at_call 68; refine (wc33 ad bs.length c bs _ (S.out _).1 (by omega)).mono ?_; rintro e w' ⟨A', c', rfl, hown, hbel⟩; have k2 : w'.cell? ⟨Wb, 2, none⟩ = some (.int .i64 0) := (hbel.cell (p := ⟨Wb, 2, none⟩) HL.out).trans h2; have OW := Lib.hid hown; have BL := Lib.hid hbel; clear hown hbel))
    all_goals
      go_wp2
      go_ret2
      obtain ⟨r1, r2⟩ := own_row OW.out |> fun ⟨A1, wc1, e, h1, h2, h3⟩ => (by simp only [Value.slice.injEq] at e; obtain ⟨rfl, _, rfl⟩ := e; exact ⟨h1, h3⟩ : Row w' A' bs ∧ bs.length ≤ c')
      exact ⟨⟨A', c', rfl, r1, r2, (src_own OW.out).2.2.1, own_le OW.out⟩, ⟨BL.out.os, BL.out.tape, BL.out.output, BL.out.size, fun k hk => BL.out.block k (Nat.lt_of_lt_of_le hk HB.out)⟩⟩
end Go.Proofs.YtffaddefnpkcgaaGreatDoor

