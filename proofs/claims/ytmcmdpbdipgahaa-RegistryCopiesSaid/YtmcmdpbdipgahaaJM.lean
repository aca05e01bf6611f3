/-
  Joined: RO2, RO3, R20, R22, R23, R24.
-/
import Derived.Test.YtmcmdpbdipgahaaJD
import Derived.ProofKit
import Derived.OpenShut
import Derived.Laws.Cover2
import Derived.Deep.Slices
import Derived.WideShapes
import Derived.Deep.MidRow
import Derived.ChangeOld
import Derived.Test.YtmcmdpbdipgahaaJK
import Derived.Deep.OwnRows
/-
  A row of Forwards that came in.
-/
namespace Go.Proofs.Ytmcmdpbdipgahaa
open Go.ChangeShapes Go.WideShapes Go.ChangeAt Go.RowKit Go.Deep
set_option maxRecDepth 100000
structure Fd where
  s : Int
  a : Int
  o : List Int
  n : Int
def fdV (d : Fd) : List Value := fwV d.s d.a d.o d.n
def Fd.ok (d : Fd) : Prop := wfI d.s ∧ wfI d.n
section
variable {H : Type} {enc' : TypeId × Value → H} {w : World} {base : Nat} {spare : Nat → Bool} {held : Bool}
theorem fields_all {t : TypeId} {fs : Array Field} {fuel : Nat} {cs : List Value} {x : DataW H × List MemPlace} (hu : Try.prog.underlying t = some (.struct fs)) (h : DataW.trod enc' Try.prog w base spare held fuel t cs = some x) :
    cs.length = Try.prog.cellsOf t ∧ ∃ n, ∀ f ∈ fs.toList, ∃ y, DataW.trod enc' Try.prog w base spare held n f.type ((cs.drop f.offset).take (Try.prog.cellsOf f.type)) = some y := by
  obtain ⟨xs, n, _, _, hl, hx, hf⟩ := DataW.trod_struct hu h
  refine ⟨hl, n, fun f hm => ?_⟩
  obtain ⟨i, hi, e⟩ := List.mem_iff_getElem.1 hm
  have hi' : i < fs.size := by simpa using hi
  have := hf i f (by rw [Array.getElem?_eq_getElem hi']; simpa using e)
  rw [List.getElem?_eq_getElem (by omega)] at this
  exact ⟨_, this⟩
theorem bytes_of' {n : Nat} {cs : List Value} (hl : cs.length = n) (h : ∀ i, i < n → ∃ z : Int, cs[i]? = some (.int .u8 z)) : ∃ l : List Int, cs = l.map (.int .u8) ∧ l.length = n := by
  induction cs generalizing n with
  | nil => exact ⟨[], rfl, by simpa using hl⟩
  | cons c cs ih =>
    cases n with
    | zero => cases hl
    | succ n =>
      obtain ⟨z, h0⟩ := h 0 (by omega)
      obtain ⟨l, h1, h2⟩ := ih (n := n) (by simpa using hl) (fun i hi => by
        obtain ⟨y, e⟩ := h (i + 1) (by omega)
        exact ⟨y, by simpa using e⟩)
      simp at h0
      subst h0
      exact ⟨z :: l, by simp [h1], by simp [h2]⟩
theorem opn_hash8 {fuel : Nat} {cs : List Value} {x : DataW H × List MemPlace} (h : DataW.trod enc' Try.prog w base spare held fuel 31 cs = some x) : ∃ l : List Int, l.length = 8 ∧ cs = l.map (.int .u8) := by
  obtain ⟨xs, m, _, _, hl, hx, hi⟩ := DataW.trod_array Try.underlying31 h
  have hl : cs.length = 8 := hl.trans (by kernel_rfl)
  have c5 : Try.prog.cellsOf 5 = 1 := by kernel_rfl
  obtain ⟨l, h1, h2⟩ := bytes_of' hl fun i hin => by
    have e := hi i hin
    rw [c5, Nat.mul_one, List.getElem?_eq_getElem (by omega)] at e
    obtain ⟨z, e1, _⟩ := DataW.trod_int Try.underlying5 e
    refine ⟨z, ?_⟩
    have : (cs.drop i)[0]? = some (.int .u8 z) := by
      have := congrArg (fun l : List Value => l[0]?) e1
      simpa [List.getElem?_take] using this
    simpa using this
  exact ⟨l, h2, h1⟩
theorem fw_row {s a n : Int} {l : List Int} (h : l.length = 8) : fwV s a l n = [.int .i64 s] ++ ([.int .i64 a] ++ (l.map (.int .u8) ++ [.int .i64 n])) := by
  match l, h with
  | [a0, a1, a2, a3, a4, a5, a6, a7], _ => rfl
theorem opn_fwd {fuel : Nat} {cs : List Value} {x : DataW H × List MemPlace} (h : DataW.trod enc' Try.prog w base spare held fuel 33 cs = some x) : ∃ d : Fd, d.ok ∧ cs = fdV d := by
  obtain ⟨hl, n, ha⟩ := fields_all Try.underlying33 h
  have hl : cs.length = 11 := hl.trans (by kernel_rfl)
  obtain ⟨y0, h0⟩ := ha _ (List.mem_of_getElem? (i := 0) rfl)
  obtain ⟨y1, h1⟩ := ha _ (List.mem_of_getElem? (i := 1) rfl)
  obtain ⟨y2, h2⟩ := ha _ (List.mem_of_getElem? (i := 2) rfl)
  obtain ⟨y3, h3⟩ := ha _ (List.mem_of_getElem? (i := 3) rfl)
  obtain ⟨z0, e0, _, w0⟩ := DataW.trod_int Try.underlying3 h0
  obtain ⟨z1, e1, _, w1⟩ := DataW.trod_int Try.underlying3 h1
  obtain ⟨l, o2, e2⟩ := opn_hash8 h2
  obtain ⟨z3, e3, _, w3⟩ := DataW.trod_int Try.underlying3 h3
  have b0 := bounds_i64 w0
  have b3 := bounds_i64 w3
  refine ⟨⟨z0, z1, l, z3⟩, ⟨(show wfI z0 by unfold wfI; omega), (show wfI z3 by unfold wfI; omega)⟩, ?_⟩
  have c0 : (cs.drop 0).take 1 = [.int .i64 z0] := e0
  have c1 : (cs.drop 1).take 1 = [.int .i64 z1] := e1
  have c2 : (cs.drop 2).take 8 = l.map (.int .u8) := e2
  have c3 : (cs.drop 10).take 1 = [.int .i64 z3] := e3
  show cs = fwV z0 z1 l z3
  rw [fw_row o2, ← c0, ← c1, ← c2, ← c3, List.take_of_length_le (l := cs.drop 10) (by rw [List.length_drop, hl]; decide)]
  have : ∀ (o a : Nat), cs.drop o = (cs.drop o).take a ++ cs.drop (o + a) := fun o a => by rw [← List.drop_drop, List.take_append_drop]
  rw [← this 2 8, ← this 1 1, ← this 0 1, List.drop_zero]
/-- a row of Forwards in memory -/
def FRow (w : World) (A : Option Addr) (n : Nat) (D : Nat → Fd) : Prop := n = 0 ∨ ∃ b o, A = some ⟨b, o, none⟩ ∧ ∀ i, i < n → w.rangeAt b (o + i * 11) (fdV (D i))
def fd0 : Fd := ⟨0, 0, [], 0⟩
theorem fd0_ok : fd0.ok := ⟨by unfold wfI fd0; decide, by unfold wfI fd0; decide⟩
theorem fdV_len (d : Fd) : (fdV d).length = 11 := rfl
theorem open_fwds {fuel : Nat} {cs : List Value} {x : DataW H × List MemPlace} (h : DataW.trod enc' Try.prog w base spare held fuel 68 cs = some x) :
    ∃ (A : Option Addr) (len cap : Nat) (D : Nat → Fd), cs = [.slice A len cap] ∧ FRow w A len D ∧ (∀ i, (D i).ok) ∧ len ≤ cap ∧ cap ≤ 9223372036854775807 := by
  have k : Try.prog.cellsOf 33 = 11 := by kernel_rfl
  rcases open_slice Try.underlying68 h with ⟨rfl, hx⟩ | ⟨a, l, c, m, n, D, Pl, rfl, hb, hl, hm, hmm, hx, hcell⟩
  · exact ⟨none, 0, 0, fun _ => fd0, rfl, .inl rfl, fun _ => fd0_ok, Nat.le_refl _, by decide⟩
  · have hml : l ≤ m := by rw [hmm]; split <;> omega
    unfold maxLen at hm
    by_cases hz : l = 0
    · subst hz
      exact ⟨some a, 0, c, fun _ => fd0, rfl, .inl rfl, fun _ => fd0_ok, hl, hm⟩
    · obtain ⟨b, off, spot⟩ := a
      have hh : ∀ i, ∃ d : Fd, d.ok ∧ (i < l → ∀ j v, (fdV d)[j]? = some v → w.cell? ((Addr.mk b off spot).add (i * 11 + j)) = some v) := by
        intro i
        by_cases hi : i < l
        · obtain ⟨cs', h1, h2⟩ := hcell i (by omega)
          obtain ⟨d, g1, g2⟩ := opn_fwd h2
          rw [k] at h1
          obtain ⟨_, hlen, hc2⟩ := World.cells?_some h1
          refine ⟨d, g1, fun _ j v hv => ?_⟩
          rw [← g2] at hv
          have hj := (List.getElem?_eq_some_iff.1 hv).1
          have := hc2 j (by omega)
          rw [Go.Deep.add_add] at this
          rw [this, hv]
        · exact ⟨fd0, fd0_ok, fun h => absurd h hi⟩
      have hD := fun i => Classical.choose_spec (hh i)
      have hspot : spot = none := by
        have h4 := (hD 0).2 (by omega) 0 _ (List.getElem?_eq_getElem (show 0 < (fdV _).length by rw [fdV_len]; decide))
        simpa [Addr.add] using World.cell?_spot h4
      subst hspot
      refine ⟨some ⟨b, off, none⟩, l, c, fun i => Classical.choose (hh i), rfl, .inr ⟨b, off, rfl, fun i hi => ?_⟩, fun i => (hD i).1, hl, hm⟩
      intro j v hv
      have := (hD i).2 hi j v hv
      rwa [Addr.add_mid, ← Nat.add_assoc] at this
/-- a row of Forwards that came in -/
theorem fwds_of {r : Reach} {b0 : Nat} {v : Value} {d : DataW H} {p : List MemPlace} (hv : Value.okWide Try.prog w r b0 68 v) (hd : DataW.Trod enc' Try.prog w base spare held 68 v d p) :
    ∃ (A : Option Addr) (len cap : Nat) (D : Nat → Fd), v = .slice A len cap ∧ FRow w A len D ∧ (∀ i, (D i).ok) ∧ len ≤ cap ∧ cap ≤ 9223372036854775807 := by
  obtain ⟨a, l, c, rfl⟩ := okWide_slice Try.underlying68 hv
  obtain ⟨fuel, hf⟩ := hd
  obtain ⟨A, len, cap, D, e, rest⟩ := open_fwds hf
  simp [Value.cells] at e
  obtain ⟨rfl, rfl, rfl⟩ := e
  exact ⟨_, _, _, D, rfl, rest⟩
end
end Go.Proofs.Ytmcmdpbdipgahaa

/-
  A row of deeds that came in.
-/
namespace Go.Proofs.Ytmcmdpbdipgahaa
open Go.ChangeShapes Go.WideShapes Go.ChangeAt Go.RowKit Go.Deep
set_option maxRecDepth 100000
structure Dd13 where
  d : Int
  n : Int
  m : Int
  f : Fd
def ddV (d : Dd13) : List Value := [.int .i64 d.d] ++ ([.int .i64 d.n] ++ ([.int .i64 d.m] ++ fdV d.f))
def Dd13.ok (d : Dd13) : Prop := wfI d.d ∧ wfI d.n ∧ wfI d.m ∧ d.f.ok
section
variable {H : Type} {enc' : TypeId × Value → H} {w : World} {base : Nat} {spare : Nat → Bool} {held : Bool}
theorem opn_deed13 {fuel : Nat} {cs : List Value} {x : DataW H × List MemPlace} (h : DataW.trod enc' Try.prog w base spare held fuel 35 cs = some x) : ∃ d : Dd13, d.ok ∧ cs = ddV d := by
  obtain ⟨hl, n, ha⟩ := fields_all Try.underlying35 h
  have hl : cs.length = 14 := hl.trans (by kernel_rfl)
  obtain ⟨y0, h0⟩ := ha _ (List.mem_of_getElem? (i := 0) rfl)
  obtain ⟨y1, h1⟩ := ha _ (List.mem_of_getElem? (i := 1) rfl)
  obtain ⟨y2, h2⟩ := ha _ (List.mem_of_getElem? (i := 2) rfl)
  obtain ⟨y3, h3⟩ := ha _ (List.mem_of_getElem? (i := 3) rfl)
  obtain ⟨z0, e0, _, w0⟩ := DataW.trod_int Try.underlying3 h0
  obtain ⟨z1, e1, _, w1⟩ := DataW.trod_int Try.underlying3 h1
  obtain ⟨z2, e2, _, w2⟩ := DataW.trod_int Try.underlying3 h2
  obtain ⟨f, o3, e3⟩ := opn_fwd h3
  have b0 := bounds_i64 w0
  have b1 := bounds_i64 w1
  have b2 := bounds_i64 w2
  refine ⟨⟨z0, z1, z2, f⟩, ⟨(show wfI z0 by unfold wfI; omega), (show wfI z1 by unfold wfI; omega), (show wfI z2 by unfold wfI; omega), o3⟩, ?_⟩
  have c0 : (cs.drop 0).take 1 = [.int .i64 z0] := e0
  have c1 : (cs.drop 1).take 1 = [.int .i64 z1] := e1
  have c2 : (cs.drop 2).take 1 = [.int .i64 z2] := e2
  have c3 : (cs.drop 3).take 11 = fdV f := e3
  show cs = [.int .i64 z0] ++ ([.int .i64 z1] ++ ([.int .i64 z2] ++ fdV f))
  rw [← c0, ← c1, ← c2, ← c3, List.take_of_length_le (l := cs.drop 3) (by rw [List.length_drop, hl]; decide)]
  have : ∀ (o a : Nat), cs.drop o = (cs.drop o).take a ++ cs.drop (o + a) := fun o a => by rw [← List.drop_drop, List.take_append_drop]
  rw [← this 2 1, ← this 1 1, ← this 0 1, List.drop_zero]
/-- a row of deeds in memory -/
def DRow13 (w : World) (A : Option Addr) (n : Nat) (D : Nat → Dd13) : Prop := n = 0 ∨ ∃ b o, A = some ⟨b, o, none⟩ ∧ ∀ i, i < n → w.rangeAt b (o + i * 14) (ddV (D i))
def dd0 : Dd13 := ⟨0, 0, 0, fd0⟩
theorem dd0_ok : dd0.ok := ⟨by unfold wfI dd0; decide, by unfold wfI dd0; decide, by unfold wfI dd0; decide, fd0_ok⟩
theorem ddV_len (d : Dd13) : (ddV d).length = 14 := rfl
theorem open_deeds13 {fuel : Nat} {cs : List Value} {x : DataW H × List MemPlace} (h : DataW.trod enc' Try.prog w base spare held fuel 22 cs = some x) :
    ∃ (A : Option Addr) (len cap : Nat) (D : Nat → Dd13), cs = [.slice A len cap] ∧ DRow13 w A len D ∧ (∀ i, (D i).ok) ∧ len ≤ cap ∧ cap ≤ 9223372036854775807 := by
  have k : Try.prog.cellsOf 35 = 14 := by kernel_rfl
  rcases open_slice Try.underlying22 h with ⟨rfl, hx⟩ | ⟨a, l, c, m, n, D, Pl, rfl, hb, hl, hm, hmm, hx, hcell⟩
  · exact ⟨none, 0, 0, fun _ => dd0, rfl, .inl rfl, fun _ => dd0_ok, Nat.le_refl _, by decide⟩
  · have hml : l ≤ m := by rw [hmm]; split <;> omega
    unfold maxLen at hm
    by_cases hz : l = 0
    · subst hz
      exact ⟨some a, 0, c, fun _ => dd0, rfl, .inl rfl, fun _ => dd0_ok, hl, hm⟩
    · obtain ⟨b, off, spot⟩ := a
      have hh : ∀ i, ∃ d : Dd13, d.ok ∧ (i < l → ∀ j v, (ddV d)[j]? = some v → w.cell? ((Addr.mk b off spot).add (i * 14 + j)) = some v) := by
        intro i
        by_cases hi : i < l
        · obtain ⟨cs', h1, h2⟩ := hcell i (by omega)
          obtain ⟨d, g1, g2⟩ := opn_deed13 h2
          rw [k] at h1
          obtain ⟨_, hlen, hc2⟩ := World.cells?_some h1
          refine ⟨d, g1, fun _ j v hv => ?_⟩
          rw [← g2] at hv
          have hj := (List.getElem?_eq_some_iff.1 hv).1
          have := hc2 j (by omega)
          rw [Go.Deep.add_add] at this
          rw [this, hv]
        · exact ⟨dd0, dd0_ok, fun h => absurd h hi⟩
      have hD := fun i => Classical.choose_spec (hh i)
      have hspot : spot = none := by
        have h4 := (hD 0).2 (by omega) 0 _ (List.getElem?_eq_getElem (show 0 < (ddV _).length by rw [ddV_len]; decide))
        simpa [Addr.add] using World.cell?_spot h4
      subst hspot
      refine ⟨some ⟨b, off, none⟩, l, c, fun i => Classical.choose (hh i), rfl, .inr ⟨b, off, rfl, fun i hi => ?_⟩, fun i => (hD i).1, hl, hm⟩
      intro j v hv
      have := (hD i).2 hi j v hv
      rwa [Addr.add_mid, ← Nat.add_assoc] at this
/-- a row of deeds that came in -/
theorem deeds13_of {r : Reach} {b0 : Nat} {v : Value} {d : DataW H} {p : List MemPlace} (hv : Value.okWide Try.prog w r b0 22 v) (hd : DataW.Trod enc' Try.prog w base spare held 22 v d p) :
    ∃ (A : Option Addr) (len cap : Nat) (D : Nat → Dd13), v = .slice A len cap ∧ DRow13 w A len D ∧ (∀ i, (D i).ok) ∧ len ≤ cap ∧ cap ≤ 9223372036854775807 := by
  obtain ⟨a, l, c, rfl⟩ := okWide_slice Try.underlying22 hv
  obtain ⟨fuel, hf⟩ := hd
  obtain ⟨A, len, cap, D, e, rest⟩ := open_deeds13 hf
  simp [Value.cells] at e
  obtain ⟨rfl, rfl, rfl⟩ := e
  exact ⟨_, _, _, D, rfl, rest⟩
end
end Go.Proofs.Ytmcmdpbdipgahaa

/-
  RegistryForwards without the walk.
-/
namespace Go.Proofs.Ytmcmdpbdipgahaa
open Go.RowKit Go.Maps
set_option maxRecDepth 100000
theorem made_ints (z : Value) (n : Nat) : madeCells #[z] n = (List.replicate n z).toArray := by
  apply Array.ext'
  unfold madeCells
  simp only [Array.toList_map, Array.toList_range]
  apply List.ext_getElem?
  intro i
  by_cases h : i < n
  · rw [List.getElem?_map, List.getElem?_range h, List.getElem?_replicate, if_pos h]
    show some (#[z][i % 1]!) = some z
    rw [Nat.mod_one]
    rfl
  · rw [List.getElem?_eq_none (by simp; omega), List.getElem?_eq_none (by simp; omega)]
def csF (k : Nat) : List Con := (List.range k).map fun i : Nat => cM 2 1 ((i : Nat) : Int)
theorem csF_len (k : Nat) : (csF k).length = k := by unfold csF; rw [List.length_map, List.length_range]
theorem csF_succ (k : Nat) : csF (k + 1) = csF k ++ [cM 2 1 (k : Int)] := by unfold csF; rw [List.range_succ, List.map_append]; rfl
theorem csF_at {k i : Nat} (h : i < k) : (csF k).getD i con00 = cM 2 1 (i : Int) := by
  unfold csF
  rw [List.getD_eq_getElem?_getD, List.getElem?_map, List.getElem?_range h]
  rfl
theorem crN2 (k : Nat) (h : k < 8) : creC (csF k) (mayP (at8 (cat rootS 2)) 2 4 2 1) (con0 4 2 1 2 (cat rootS 2) (k : Int)) = (csF (k + 1), (k : Int), 0) := by
  rw [may_two 2 1 (by decide) (by decide) (by decide) (by decide)]
  unfold creC
  rw [if_neg (by decide), csF_len, if_neg (by omega), csF_succ]
  rfl
theorem crStep2 {N : Nat} {w0 w : World} {S : Nat} {m : Option Nat} {k : Nat} {A : Option Addr} {c : Nat} (h : FI N w0 w S m (csF k)) (p : Src w A (8 * 2) (cat rootS 2)) (c2 : 2 ≤ c) (cm : c ≤ maxLen) (hk : k < 8) :
    Calls Try.prog 12 #[.pointer (some ⟨S, 0, none⟩), .agg #[.int .i64 4, .int .i64 2, .int .i64 1, .slice A 2 c], .int .i64 (k : Int)] w fun e w' => e = .returned (.tuple #[.int .i64 (k : Int), .int .i64 0]) ∧ ∃ m', FI N w0 w' S m' (csF (k + 1)) := by
  refine (kCreate S m _ 4 2 1 A 2 c (cat rootS 2) (k : Int) w h.reg (by rw [csF_len]; omega) p c2 cm).mono ?_
  rintro e w' ⟨r, m', hr, rfl, k2, k3, k4⟩
  rw [crN2 k hk] at hr
  subst hr
  exact ⟨rfl, m', h.turn k2 k3 k4⟩
/-- what went over so far: the sums -/
structure FW (k : Nat) (cs : List Con) (us : List Int) (t : Nat) : Prop where
  len : cs.length = k
  ul : us.length = k
  it : ∀ i, i < k → (cs.getD i con00).1.made = i ∧ (cs.getD i con00).1.bal = us.getD i 0 ∧ (cs.getD i con00).1.fwd = us.getD i 0 ∧ (cs.getD i con00).1.mat = 0 ∧ (cs.getD i con00).1.cla = 0 ∧ (cs.getD i con00).1.ce = false ∧ 0 ≤ us.getD i 0 ∧ us.getD i 0 ≤ t * 1099511627776
theorem FW.start (k : Nat) : FW k (csF k) (List.replicate k 0) 0 := by
  refine ⟨csF_len k, List.length_replicate, fun i hi => ?_⟩
  rw [csF_at hi, show (List.replicate k (0 : Int)).getD i 0 = 0 by rw [List.getD_eq_getElem?_getD, List.getElem?_replicate, if_pos hi]; rfl]
  exact ⟨rfl, rfl, rfl, rfl, rfl, rfl, Int.le_refl _, by simp⟩
theorem FW.skip {k t : Nat} {cs : List Con} {us : List Int} (h : FW k cs us t) : FW k cs us (t + 1) :=
  ⟨h.len, h.ul, fun i hi => by
    obtain ⟨a, b, c, d, e, f, g, j⟩ := h.it i hi
    exact ⟨a, b, c, d, e, f, g, by rw [Int.natCast_add]; omega⟩⟩
theorem FW.allOk {k t : Nat} {cs : List Con} {us : List Int} (h : FW k cs us t) (ht : t ≤ 60) : ∀ c ∈ cs, okC c := by
  intro c hc
  obtain ⟨i, hi, e⟩ := List.mem_iff_getElem.1 hc
  obtain ⟨a, b, c', d, e', f, g, j⟩ := h.it i (by rw [← h.len]; exact hi)
  have : cs.getD i con00 = c := by rw [List.getD_eq_getElem?_getD, List.getElem?_eq_getElem hi]; exact e
  rw [this] at b c'
  unfold okC
  rw [b, c']
  have : (t : Int) * 1099511627776 ≤ 60 * 1099511627776 := by omega
  exact ⟨g, by omega, g, by omega⟩
theorem set_getD {α : Type} (l : List α) (s i : Nat) (x d : α) (hs : s < l.length) : (l.set s x).getD i d = if i = s then x else l.getD i d := by
  rw [List.getD_eq_getElem?_getD, List.getElem?_set, List.getD_eq_getElem?_getD]
  by_cases h : s = i
  · subst h
    rw [if_pos rfl, if_pos hs, if_pos rfl]
    rfl
  · rw [if_neg h, if_neg fun e => h e.symm]
theorem FW.yes {k t s : Nat} {cs : List Con} {us : List Int} {n : Int} (h : FW k cs us t) (ht : t < 60) (hs : s < k) (h1 : 1 ≤ n) (h2 : n ≤ 1099511627776) :
    ∃ cs', fwC cs (s : Int) n = (cs', 0) ∧ FW k cs' (us.set s (us.getD s 0 + n)) (t + 1) := by
  obtain ⟨a, b, c, d, e, f, g, j⟩ := h.it s hs
  have hj : (t : Int) * 1099511627776 ≤ 60 * 1099511627776 := by omega
  refine ⟨putS cs s (moreC (cs.getD s con00) n), ?_, by rw [putS_len, if_pos (by rw [h.len]; exact hs)]; exact h.len, by rw [List.length_set]; exact h.ul, fun i hi => ?_⟩
  · unfold fwC
    rw [if_pos (by rw [h.len]; omega), Int.toNat_natCast, if_neg (by rw [f]; decide), if_pos (show fwOk _ n by unfold fwOk; rw [b, c]; omega)]
  · rw [putS_getD cs s i _ con00 (by rw [h.len]; omega), set_getD us s i _ 0 (by rw [h.ul]; exact hs)]
    by_cases hi' : i = s
    · rw [if_pos hi', if_pos hi', hi']
      refine ⟨a, ?_, ?_, d, e, f, by omega, by rw [Int.natCast_add]; omega⟩
      · show (cs.getD s con00).1.bal + n = _
        rw [b]
      · show (cs.getD s con00).1.fwd + n = _
        rw [c]
    · rw [if_neg hi', if_neg hi']
      obtain ⟨a, b, c, d, e, f, g, j⟩ := h.it i hi
      exact ⟨a, b, c, d, e, f, g, by rw [Int.natCast_add]; omega⟩
theorem FW.no1 {k t : Nat} {cs : List Con} {us : List Int} {s n : Int} (h : FW k cs us t) (hs : 0 ≤ s ∧ s < k) (h1 : ¬ 1 ≤ n) : fwC cs s n = (cs, 5) := by
  obtain ⟨a, b, c, d, e, f, g, j⟩ := h.it s.toNat (by omega)
  unfold fwC
  rw [if_pos (by rw [h.len]; exact hs), if_neg (by rw [f]; decide), if_neg (fun h => h1 h.1)]
theorem FW.no2 {k t : Nat} {cs : List Con} {us : List Int} {s n : Int} (h : FW k cs us t) (hs : ¬ (0 ≤ s ∧ s < k)) : fwC cs s n = (cs, 8) := by
  unfold fwC
  rw [if_neg (by rw [h.len]; exact hs)]
/-- a Forward, the sums beside -/
theorem fwStep {N : Nat} {w0 w : World} {S : Nat} {m : Option Nat} {cs : List Con} {k t : Nat} {us : List Int} (h : FI N w0 w S m cs) (f : FW k cs us t) (ht : t < 60) (hk : k ≤ 8) (s a n : Int) (o : List Int) (hs : wfI s) (hn : wfI n) (SB : Nat) (V : List Value) (hB : BL w SB V 3) :
    Calls Try.prog 14 #[.pointer (some ⟨S, 0, none⟩), .agg (fwV s a o n).toArray] w fun e w' => ∃ m', e = .returned (.int .i64 (fwC cs s n).2) ∧ FI N w0 w' S m' (fwC cs s n).1 ∧ BL w' SB V 3 ∧ ∀ q cs T, BL w q cs T → T ≠ 76 → BL w' q cs T := by
  obtain ⟨xs, hr, rfl⟩ := h.reg
  refine (kForward S m xs s a n o w hr (by have := f.len; rw [List.length_map] at this; omega) hs hn (f.allOk (by omega))).mono ?_
  rintro e w' ⟨r, m', rfl, rfl, k2, k3, k4⟩
  refine ⟨m', rfl, h.turn k2 k3 k4, bl_keep hB (k4.block SB (bl_lt hB) (notP_cells hr hB (by decide))), fun q cs T h1 h2 => ?_⟩
  exact bl_keep h1 (k4.block q (bl_lt h1) (notP_cells hr h1 h2))
end Go.Proofs.Ytmcmdpbdipgahaa

/-
  Forward, its rows.
-/
namespace Go.Proofs.Ytmcmdpbdipgahaa
open Go.RowKit Go.Maps
set_option maxRecDepth 100000
theorem SdAt.weakF {w : World} {P P' : Nat → Prop} {x : Sm} (h : SdAt w P x) (hp : ∀ q, q < w.heap.size → P' q → P q) : SdAt w P' x := h.keep (Nat.le_refl _) (fun _ _ _ => rfl) hp
attribute [local irreducible] sdV MapV z0 fnS fwV
set_option maxHeartbeats 8000000 in
theorem kForward2 (S : Nat) (m : Option Nat) (xs : List Sm) (s a n : Int) (o : List Int) (w : World) (h : RegM w S m xs) (hl : xs.length ≤ 100) (hs : wfI s) (hn : wfI n) (hok : ∀ c ∈ xs.map Sm.con, okC c) :
    Calls Try.prog 14 #[.pointer (some ⟨S, 0, none⟩), .agg (fwV s a o n).toArray] w fun e w' => ∃ r m', r = fwC (xs.map Sm.con) s n ∧ e = .returned (.int .i64 r.2) ∧ (∃ xs', RegM w' S m' xs' ∧ xs'.map Sm.con = r.1 ∧ ∀ y ∈ xs', y ∈ xs ∨ SdAt w' (fun q => q < w.heap.size) y) ∧ (∀ b, m' = some b → m = some b ∨ w.heap.size ≤ b) ∧ Fr w w' (isP S m) := by
  obtain ⟨N, hN⟩ : ∃ N, w.heap.size = N := ⟨_, rfl⟩
  have HN := Lib.hid hN
  obtain ⟨v, hv⟩ : ∃ v, w.alloc (Obj.cells (fwV s a o n).toArray 33) = v := ⟨_, rfl⟩
  have RF : Hid (BL v N (fwV s a o n) 33) := Lib.hid (by subst hv hN; exact heap_alloc_last w _)
  have BV : Hid (Below N w v) := Lib.hid (by subst hv hN; exact (Below.refl _ w).alloc (Nat.le_refl _) _)
  have VS : Hid (v.heap.size = N + 1) := Lib.hid (by subst hv hN; show _ = _; rw [World.size_alloc])
  have hg := h.grow (show Below w.heap.size w v by rw [hN]; exact BV.out)
  have HV := Lib.hid hg
  have HRG : Hid (∀ z, Below N w z → RegM z S m xs) := Lib.hid fun z hb => h.grow (by rw [hN]; exact hb)
  have HAG : Hid (∀ z, Below N w z → SdAt z (isP S m) (atS xs s)) := Lib.hid fun z hb => (h.at s).grow (by rw [hN]; exact hb)
  have HM := Lib.hid hg.map
  have HC := Lib.hid (show v.cell? ⟨S, 0, none⟩ = some (.map m) from hg.c0)
  have HSL : Hid (S < N) := Lib.hid (by rw [← hN]; exact h.lt S (.inl rfl))
  have HML : Hid (∀ b, m = some b → b < N) := Lib.hid fun b e => by rw [← hN]; exact h.lt b (.inr e)
  have HWS := Lib.hid hs
  have HA : Hid (SdAt v (isP S m) (atS xs s)) := Lib.hid (hg.at s)
  have LK : ∀ w' : World, (∀ q, q < N + 1 → w'.heap[q]? = v.heap[q]?) → (Instr.lookup 74 (.map m) (.int .i64 s) true).run Try.prog w' = .ok (.tuple #[.agg (sdV (atS xs s)).toArray, .bool (decide (0 ≤ s ∧ s < xs.length))]) w' := fun w' hw => (HM.out.keep fun b e => hw b (by have := HML.out b e; omega)).look HWS.out
  have C0 : ∀ w' : World, (∀ q, q < N + 1 → w'.heap[q]? = v.heap[q]?) → w'.cell? ⟨S, 0, none⟩ = some (.map m) := fun w' hw => (World.cell?_of_block (w := v) (a := ⟨S, 0, none⟩) (hw S (by have := HSL.out; omega))).trans HC.out
  have F0 : ∀ w' : World, (∀ q, q < N + 1 → w'.heap[q]? = v.heap[q]?) → w'.cell? ⟨N, 0, none⟩ = some (.int .i64 s) := fun w' hw => (World.cell?_of_block (w := v) (a := ⟨N, 0, none⟩) (hw N (by omega))).trans (fw_c0 RF.out)
  have HL := Lib.hid hl
  have HWN := Lib.hid hn
  have HOK := Lib.hid hok
  have LEN : Hid ((xs.map Sm.con).length = xs.length) := Lib.hid (List.length_map _)
  obtain ⟨x, hx⟩ : ∃ x, atS xs s = x := ⟨_, rfl⟩
  rw [hx] at LK HA HAG
  have HX := Lib.hid hx
  obtain ⟨D, hD⟩ : ∃ D, decide (0 ≤ s ∧ s < xs.length) = D := ⟨_, rfl⟩
  rw [hD] at LK
  have HDD := Lib.hid hD
  have sx : Hid ((sdV x).length = 42) := Lib.hid (sd_len x)
  have s0 : Hid ((sdV sm0).length = 42) := Lib.hid (sd_len sm0)
  have BD : Hid (Below N w v.drew) := Lib.hid BV.out.drew
  have VD : Hid (v.drew.heap.size = N + 1) := VS
  clear h hg hs hx hD hl hn hok
  go_enter Try.func14, Try.ntmps14
  go_upto_region 3 with (fail)
  (try rw [hv])
  clear hv
  refine wp_region_held_drew (S := (fun w' : World => ∀ q, q < N + 1 → w'.heap[q]? = v.heap[q]?)) (by kernel_rfl) (by exact fun _ _ => rfl) (fun hHeld => ?_)
  refine wpAnyH_take (i := 0) (v := ?_) rfl (by kernel_rfl) (by kernel_rfl) (by kernel_rfl) (fun _ _ _ h => h) (Or.inl ⟨by rfl, ?_⟩) (by assumption) ?_
  rotate_left
  · (intro w hSw; (try dsimp only at hSw); go_simp; try with_reducible rfl)
  simp only [Act.put, List.getElem_toArray, List.getElem_cons_zero, List.setIfInBounds_toArray, List.set_cons_zero, List.set_cons_succ]
  refine wpAnyH_take (i := 1) (v := ?_) rfl (by kernel_rfl) (by kernel_rfl) (by kernel_rfl) (fun _ _ _ h => h) (Or.inl ⟨by rfl, ?_⟩) (by assumption) ?_
  rotate_left
  · (intro w hSw; (try dsimp only at hSw); go_simp; try with_reducible rfl)
  simp only [Act.put, List.getElem_toArray, List.getElem_cons_succ, List.getElem_cons_zero, List.setIfInBounds_toArray, List.set_cons_zero, List.set_cons_succ]
  refine wpAnyH_take (i := 2) (v := ?_) rfl (by kernel_rfl) (by kernel_rfl) (by kernel_rfl) (fun _ _ _ h => h) (Or.inl ⟨by rfl, ?_⟩) (by assumption) ?_
  rotate_left
  · (intro w hSw; (try dsimp only at hSw); go_simp; try with_reducible rfl)
  simp only [Act.put, List.getElem_toArray, List.getElem_cons_succ, List.getElem_cons_zero, List.setIfInBounds_toArray, List.set_cons_zero, List.set_cons_succ]
  refine wpAnyH_take (i := 3) (v := ?_) rfl (by kernel_rfl) (by kernel_rfl) (by kernel_rfl) (fun _ _ _ h => h) (Or.inl ⟨by rfl, ?_⟩) (by assumption) ?_
  rotate_left
  · (intro w hSw; have z := C0 w hSw; go_simp; try with_reducible rfl)
  simp only [Act.put, List.getElem_toArray, List.getElem_cons_succ, List.getElem_cons_zero, List.setIfInBounds_toArray, List.set_cons_zero, List.set_cons_succ]
  refine wpAnyH_take (i := 4) (v := ?_) rfl (by kernel_rfl) (by kernel_rfl) (by kernel_rfl) (fun _ _ _ h => h) (Or.inl ⟨by rfl, ?_⟩) (by assumption) ?_
  rotate_left
  · (intro w hSw; (try dsimp only at hSw); go_simp; try with_reducible rfl)
  simp only [Act.put, List.getElem_toArray, List.getElem_cons_succ, List.getElem_cons_zero, List.setIfInBounds_toArray, List.set_cons_zero, List.set_cons_succ]
  refine wpAnyH_take (i := 5) (v := ?_) rfl (by kernel_rfl) (by kernel_rfl) (by kernel_rfl) (fun _ _ _ h => h) (Or.inl ⟨by rfl, ?_⟩) (by assumption) ?_
  rotate_left
  · (intro w hSw; have z := F0 w hSw; go_simp; try with_reducible rfl)
  simp only [Act.put, List.getElem_toArray, List.getElem_cons_succ, List.getElem_cons_zero, List.setIfInBounds_toArray, List.set_cons_zero, List.set_cons_succ]
  refine wpAnyH_take (i := 6) (v := ?_) rfl (by kernel_rfl) (by kernel_rfl) (by kernel_rfl) (fun _ _ _ h => h) (Or.inl ⟨by rfl, ?_⟩) (by assumption) ?_
  rotate_left
  · (intro w hSw; have z := LK w hSw; go_simp; try with_reducible rfl)
  simp only [Act.put, List.getElem_toArray, List.getElem_cons_succ, List.getElem_cons_zero, List.setIfInBounds_toArray, List.set_cons_zero, List.set_cons_succ]
  refine wpAnyH_take (i := 7) (v := ?_) rfl (by kernel_rfl) (by kernel_rfl) (by kernel_rfl) (fun _ _ _ h => h) (Or.inl ⟨by rfl, ?_⟩) (by assumption) ?_
  rotate_left
  · (intro w hSw; (try dsimp only at hSw); go_simp; try with_reducible rfl)
  simp only [Act.put, List.getElem_toArray, List.getElem_cons_succ, List.getElem_cons_zero, List.setIfInBounds_toArray, List.set_cons_zero, List.set_cons_succ]
  refine wpAnyH_take (i := 8) (v := ?_) rfl (by kernel_rfl) (by kernel_rfl) (by kernel_rfl) (fun _ _ _ h => h) (Or.inl ⟨by rfl, ?_⟩) (by assumption) ?_
  rotate_left
  · (intro w hSw; (try dsimp only at hSw); go_simp; try with_reducible rfl)
  simp only [Act.put, List.getElem_toArray, List.getElem_cons_succ, List.getElem_cons_zero, List.setIfInBounds_toArray, List.set_cons_zero, List.set_cons_succ]
  refine wpAnyH_take (i := 9) (v := ?_) rfl (by kernel_rfl) (by kernel_rfl) (by kernel_rfl) (fun _ _ _ h => h) (Or.inl ⟨by rfl, ?_⟩) (by assumption) ?_
  rotate_left
  · (intro w hSw; (try dsimp only at hSw); go_simp; try with_reducible rfl)
  simp only [Act.put, List.getElem_toArray, List.getElem_cons_succ, List.getElem_cons_zero, List.setIfInBounds_toArray, List.set_cons_zero, List.set_cons_succ]
  refine wpAnyH_ready (rs := [10]) (by kernel_rfl) (by simp) ?_
  refine AllReadyH.cons rfl (fun K hK => ?_) AllReadyH.nil
  refine step_allocS rfl rfl ?_
  have B2 : Hid (Below N w (v.drew.alloc (Obj.cells (sdV sm0).toArray 53))) := Lib.hid (BD.out.alloc (by have := VD.out; omega) _)
  have R2 : Hid (BL (v.drew.alloc (Obj.cells (sdV sm0).toArray 53)) (N + 1) (sdV sm0) 53) := Lib.hid (by rw [← VD.out]; exact heap_alloc_last _ _)
  have H2 : ∀ q, q < N + 1 → (v.drew.alloc (Obj.cells (sdV sm0).toArray 53)).heap[q]? = v.heap[q]? := fun q hq => Below.heap_alloc v.drew _ q (by rw [VD.out]; exact hq)
  have V2 : Hid ((v.drew.alloc (Obj.cells (sdV sm0).toArray 53)).heap.size = N + 2) := Lib.hid (by rw [World.size_alloc, VD.out])
  rw [VD.out]
  generalize v.drew.alloc (Obj.cells (sdV sm0).toArray 53) = v2 at *
  clear hHeld
  refine hK.out _ _ H2 (fun hHeld => ?_)
  clear hK K
  refine wpAnyH_ready (rs := [11]) (by kernel_rfl) (by simp) ?_
  refine AllReadyH.cons rfl (fun K hK => ?_) AllReadyH.nil
  refine step_storeR rfl 53 (.tmp 5) (.tmp 17) rfl rfl (N + 1) (sdV x).toArray rfl rfl 53 _ R2.out (szA sz53 sx.out) (by rw [List.size_toArray, List.size_toArray, sx.out, s0.out]) (all_oneCell_toArray (sd_one x)) ?_
  have B3 : Hid (Below N w (v2.setRow (N + 1) (sdV x).toArray)) := Lib.hid (below_setRow B2.out (by omega) _)
  have R3 : Hid (BL (v2.setRow (N + 1) (sdV x).toArray) (N + 1) (sdV x) 53) := Lib.hid (setRow_heap _ _ _ _ _ _ R2.out)
  have H3 : ∀ q, q < N + 1 → (v2.setRow (N + 1) (sdV x).toArray).heap[q]? = v.heap[q]? := fun q hq => (setRow_other _ _ _ _ (by omega)).trans (H2 q hq)
  have V3 : Hid ((v2.setRow (N + 1) (sdV x).toArray).heap.size = N + 2) := Lib.hid (by rw [setRow_size]; exact V2.out)
  generalize v2.setRow (N + 1) (sdV x).toArray = u at *
  clear hHeld
  refine hK.out _ _ H3 (fun hHeld => ?_)
  clear hK K
  refine wpAnyH_take (i := 12) (v := ?_) rfl (by kernel_rfl) (by kernel_rfl) (by kernel_rfl) (fun _ _ _ h => h) (Or.inl ⟨by rfl, ?_⟩) (by assumption) ?_
  rotate_left
  · (intro w hSw; (try dsimp only at hSw); go_simp; try with_reducible rfl)
  simp only [Act.put, List.getElem_toArray, List.getElem_cons_succ, List.getElem_cons_zero, List.setIfInBounds_toArray, List.set_cons_zero, List.set_cons_succ]
  clear hHeld
  refine wpAnyH_done (by kernel_rfl) ?_ _
  have RFu : Hid (BL u N (fwV s a o n) 33) := Lib.hid (bl_keep RF.out (H3 N (by omega)))
  have HU : Hid (RegM u S m xs) := Lib.hid ⟨bl_keep HV.out.blk (H3 S (by have := HSL.out; omega)), HM.out.keep fun b e => H3 b (by have := HML.out b e; omega), fun y hy => (HV.out.rows y hy).keep (by rw [VS.out, V3.out]; omega) (fun q hq _ => H3 q (by rw [← VS.out]; exact hq)) fun _ _ h => h⟩
  have HAu : Hid (SdAt u (isP S m) x) := Lib.hid (HA.out.keep (by rw [VS.out, V3.out]; omega) (fun q hq _ => H3 q (by rw [← VS.out]; exact hq)) fun _ _ h => h)
  have FU : Hid (Fr w u (isP S m)) := Lib.hid (Fr.of_below (by rw [HN.out]; exact B3.out))
  have b5 := sd_bal R3.out
  have b6 := sd_c6 R3.out
  have b9 := sd_c9 R3.out
  have a10 := fw_c10 RFu.out
  have NE : N + 1 ≠ N := by omega
  clear C0 F0 LK H3 H2 HM HC BD VD RF HA HV V2 R2 B2
  obtain ⟨bal, hbal⟩ : ∃ z, x.s.bal = z := ⟨_, rfl⟩
  obtain ⟨fwd, hfwd⟩ : ∃ z, x.s.fwd = z := ⟨_, rfl⟩
  obtain ⟨ce, hce⟩ : ∃ z, x.s.ce = z := ⟨_, rfl⟩
  rw [hbal] at b5
  rw [hfwd] at b6
  rw [hce] at b9
  have XX : Hid (x.con.1.bal = bal ∧ x.con.1.fwd = fwd ∧ x.con.1.ce = ce) := Lib.hid ⟨hbal, hfwd, hce⟩
  have stay : ∀ k, (fwC (xs.map Sm.con) s n) = (xs.map Sm.con, k) → ∀ w2 : World, Below u.heap.size u w2 → ∃ r m', r = fwC (xs.map Sm.con) s n ∧ Ending.returned (.int .i64 k) = .returned (.int .i64 r.2) ∧ (∃ xs', RegM w2 S m' xs' ∧ xs'.map Sm.con = r.1 ∧ ∀ y ∈ xs', y ∈ xs ∨ SdAt w2 (fun q => q < w.heap.size) y) ∧ (∀ b, m' = some b → m = some b ∨ w.heap.size ≤ b) ∧ Fr w w2 (isP S m) := fun k hk w2 hb => ⟨_, m, rfl, by rw [hk], ⟨xs, HU.out.grow hb, by rw [hk], fun y hy => .inl hy⟩, fun b e => .inl e, FU.out.trans (Fr.of_below (P := isP S m) hb) fun q hq => .inl hq⟩
  have STAY := Lib.hid stay
  clear stay hbal hfwd hce
  cases D with
  | false =>
    go_wp2
    go_ret
    refine STAY.out 8 ?_ _ (Below.refl _ _)
    unfold fwC
    rw [LEN.out, if_neg (of_decide_eq_false HDD.out)]
  | true =>
    have hin := of_decide_eq_true HDD.out
    obtain ⟨i, rfl⟩ : ∃ i : Nat, s = (i : Int) := ⟨s.toNat, by omega⟩
    have GX : Hid ((xs.map Sm.con).getD ((i : Int)).toNat con00 = x.con) := Lib.hid (by
      rw [Int.toNat_natCast, getD_con, ← HX.out]
      unfold atS
      rw [if_pos hin, Int.toNat_natCast])
    have HI : Hid (i < xs.length) := Lib.hid (by omega)
    have FWC : Hid (fwC (xs.map Sm.con) (i : Int) n = if x.con.1.ce = true then (xs.map Sm.con, 14) else if fwOk x.con n then (putS (xs.map Sm.con) i (moreC x.con n), 0) else (xs.map Sm.con, 5)) := Lib.hid (by
      unfold fwC
      rw [LEN.out, if_pos hin, GX.out, Int.toNat_natCast])
    have OKX : Hid (okC x.con) := Lib.hid (HOK.out _ (by
      rw [← GX.out, Int.toNat_natCast, List.getD_eq_getElem?_getD, List.getElem?_eq_getElem (by rw [LEN.out]; exact HI.out)]
      exact List.getElem_mem _))
    clear hin
    cases ce with
    | true =>
      go_wp2
      go_ret
      exact STAY.out 14 (by rw [FWC.out, if_pos XX.out.2.2]) _ (Below.refl _ _)
    | false =>
      have nce : Hid (¬ x.con.1.ce = true) := Lib.hid (by rw [XX.out.2.2]; decide)
      by_cases g1 : n < 1
      · go_wp2
        go_ret
        exact STAY.out 5 (by rw [FWC.out, if_neg nce.out, if_neg (by unfold fwOk; omega)]) _ (Below.refl _ _)
      · by_cases g2 : n ≤ 1125899906842624
        · have CM : Hid (∀ w, Calls Try.prog 36 #[.int .i64 n] w fun e w' => e = .returned (.bool true) ∧ w = w') := Lib.hid fun w => by
            have := rMayM n w
            rw [decide_eq_true (by omega : 0 ≤ n), decide_eq_true g2] at this
            exact this
          have hr : 1 ≤ n ∧ n ≤ 1125899906842624 := ⟨by omega, g2⟩
          obtain ⟨q1, hq1⟩ : ∃ q, decide (bal ≤ 1125899906842624 - n) = q := ⟨_, rfl⟩
          obtain ⟨q2, hq2⟩ : ∃ q, decide (fwd ≤ 1125899906842624 - n) = q := ⟨_, rfl⟩
          have CB : Hid (∀ w, Calls Try.prog 37 #[.int .i64 bal, .int .i64 n] w fun e w' => e = .returned (.bool q1) ∧ w = w') := Lib.hid fun w => by rw [← hq1]; exact rRoom bal n w hr
          have CF : Hid (∀ w, Calls Try.prog 37 #[.int .i64 fwd, .int .i64 n] w fun e w' => e = .returned (.bool q2) ∧ w = w') := Lib.hid fun w => by rw [← hq2]; exact rRoom fwd n w hr
          have Q1 := Lib.hid hq1
          have Q2 := Lib.hid hq2
          have HR := Lib.hid hr
          clear g2 hr hq1 hq2
          have T1 : Hid True := Lib.hid trivial
          cases q1 with
          | false =>
            go_wp2_with (first
              | (go_at_call 36; refine (CM.out _).mono ?_; rintro e w' ⟨rfl, rfl⟩)
              | (go_at_call 37; refine (CB.out _).mono ?_; rintro e w' ⟨rfl, rfl⟩)
              | fail)
            go_ret
            exact STAY.out 5 (by rw [FWC.out, if_neg nce.out, if_neg (by unfold fwOk; rw [XX.out.1]; have := of_decide_eq_false Q1.out; omega)]) _ (Below.refl _ _)
          | true =>
            cases q2 with
            | false =>
              go_wp2_with (first
                | (go_at_call 36; refine (CM.out _).mono ?_; rintro e w' ⟨rfl, rfl⟩)
                | (go_at_call 37; clear T1; refine (CB.out _).mono ?_; rintro e w' ⟨rfl, rfl⟩)
                | (go_at_call 37; refine (CF.out _).mono ?_; rintro e w' ⟨rfl, rfl⟩)
                | fail)
              go_ret
              exact STAY.out 5 (by rw [FWC.out, if_neg nce.out, if_neg (by unfold fwOk; rw [XX.out.2.1]; have := of_decide_eq_false Q2.out; omega)]) _ (Below.refl _ _)
            | true =>
              have FOK : Hid (fwOk x.con n) := Lib.hid ⟨HR.out.1, HR.out.2, by rw [XX.out.1]; exact of_decide_eq_true Q1.out, by rw [XX.out.2.1]; exact of_decide_eq_true Q2.out⟩
              have LI : Hid (i ≤ xs.length ∧ xs.length ≤ 100) := Lib.hid ⟨Nat.le_of_lt HI.out, HL.out⟩
              have W1 : wrap64 (bal + n) = bal + n := by have h1 := FOK.out; have h2 := OKX.out; unfold fwOk at h1; unfold okC at h2; rw [XX.out.1] at h1 h2; unfold wrap64; omega
              have W2 : wrap64 (fwd + n) = fwd + n := by have h1 := FOK.out; have h2 := OKX.out; unfold fwOk at h1; unfold okC at h2; rw [XX.out.2.1] at h1 h2; unfold wrap64; omega
              have f5 : u.frozen? ⟨N + 1, 5, none⟩ = false := bl_free R3.out 5
              have R4 : Hid (BL (u.setCell ⟨N + 1, 5, none⟩ (.int .i64 (bal + n))) (N + 1) (sdV (x.more1 n)) 53) := Lib.hid (by
                have := bl_set R3.out 5 (.int .i64 (bal + n))
                rw [← XX.out.1] at this ⊢
                rw [show x.con.1.bal = x.s.bal from rfl, sd_more1] at this
                exact this)
              have f6 : (u.setCell ⟨N + 1, 5, none⟩ (.int .i64 (bal + n))).frozen? ⟨N + 1, 6, none⟩ = false := bl_free R4.out 6
              have R5 : Hid (BL ((u.setCell ⟨N + 1, 5, none⟩ (.int .i64 (bal + n))).setCell ⟨N + 1, 6, none⟩ (.int .i64 (fwd + n))) (N + 1) (sdV (x.more n)) 53) := Lib.hid (by
                have := bl_set R4.out 6 (.int .i64 (fwd + n))
                rw [← XX.out.2.1] at this ⊢
                rw [show x.con.1.fwd = x.s.fwd from rfl, sd_more2] at this
                exact this)
              have B5 : Hid (Below N w ((u.setCell ⟨N + 1, 5, none⟩ (.int .i64 (bal + n))).setCell ⟨N + 1, 6, none⟩ (.int .i64 (fwd + n)))) := Lib.hid ((B3.out.setCell (Nat.le_succ _) _).setCell (Nat.le_succ _) _)
              have F0 : ((u.setCell ⟨N + 1, 5, none⟩ (.int .i64 (bal + n))).setCell ⟨N + 1, 6, none⟩ (.int .i64 (fwd + n))).cell? ⟨N, 0, none⟩ = some (.int .i64 (i : Int)) := fw_c0 (bl_keep (bl_keep RFu.out (heap_set1 _ _ _ (by omega))) (heap_set1 _ _ _ (by omega)))
              have sm : Hid ((sdV (x.more n)).length = 42) := Lib.hid (sd_len _)
              go_upto_region 12 with (first
                | (go_at_call 36; refine (CM.out _).mono ?_; rintro e w' ⟨rfl, rfl⟩)
                | (go_at_call 37; clear T1; refine (CB.out _).mono ?_; rintro e w' ⟨rfl, rfl⟩)
                | (go_at_call 37; refine (CF.out _).mono ?_; rintro e w' ⟨rfl, rfl⟩)
                | fail)
              generalize (u.setCell ⟨N + 1, 5, none⟩ (.int .i64 (bal + n))).setCell ⟨N + 1, 6, none⟩ (.int .i64 (fwd + n)) = u2 at *
              clear W1 W2 f5 f6 b5 b6 a10 CM CB CF
              go_wp2_with (first
                | (refine wpList_load_midG (by rfl) 53 (.tmp 5) rfl (N + 1) 0 rfl (sdV (x.more n)) _ (range_of R5.out) Try.underlying53 rfl (szL sz53 sm.out) ?_)
                | (go_at_call 34; refine (kPut2 S m xs i (x.more n) u2 (HRG.out _ B5.out) LI.out.1 LI.out.2 ⟨(HAG.out _ B5.out).K, (HAG.out _ B5.out).O, (HAG.out _ B5.out).G, (HAG.out _ B5.out).U⟩).mono ?_; rintro e w3 ⟨rfl, m', x', k1, k2, k3, k4, k5⟩; have K1 := Lib.hid k1; have K2 := Lib.hid k2; have K3 := Lib.hid k3; have K4 := Lib.hid k4; have K5 := Lib.hid k5; clear k1 k2 k3 k4 k5)
                | fail)
              go_ret
              refine ⟨_, m', rfl, ?_, ⟨putS xs i x', ?_, ?_, fun y hy => (putS_mem hy).imp id fun e => by rw [e]; exact K5.out.weakF fun q _ hq => Nat.lt_of_lt_of_le hq (by have := B5.out.size; have := HN.out; omega)⟩, fun b e => (K3.out b e).imp id fun h => Nat.le_trans B5.out.size h, (Fr.of_below (P := isP S m) (by rw [HN.out]; exact B5.out)).trans K4.out fun q hq => .inl hq⟩
              · rw [FWC.out, if_neg nce.out, if_pos FOK.out]; rfl
              · exact K2.out
              · rw [FWC.out, if_neg nce.out, if_pos FOK.out, putS_map, K1.out, more_con]
        · have CM : Hid (∀ w, Calls Try.prog 36 #[.int .i64 n] w fun e w' => e = .returned (.bool false) ∧ w = w') := Lib.hid fun w => by
            have := rMayM n w
            rw [decide_eq_true (by omega : 0 ≤ n), decide_eq_false g2] at this
            exact this
          go_wp2_with (first
            | (go_at_call 36; refine (CM.out _).mono ?_; rintro e w' ⟨rfl, rfl⟩)
            | fail)
          go_ret
          exact STAY.out 5 (by rw [FWC.out, if_neg nce.out, if_neg (by unfold fwOk; omega)]) _ (Below.refl _ _)
end Go.Proofs.Ytmcmdpbdipgahaa

/-
  A registry, a row of numbers beside.
-/
namespace Go.Proofs.Ytmcmdpbdipgahaa
open Go.RowKit Go.Maps
set_option maxRecDepth 100000
theorem fr_cellF (w : World) (G i : Nat) (v : Value) : Fr w (w.setCell ⟨G, i, none⟩ v) (fun q => q = G) := ⟨rfl, rfl, rfl, by rw [World.size_setCell]; exact Nat.le_refl _, fun q _ hn => heap_set1 v w q hn⟩
theorem RfAt.bothF {w : World} {P P' : Nat → Prop} {sz : Nat} {r : Rf} (h : RfAt w P sz r) (h' : RfAt w P' sz r) : RfAt w (fun q => P q ∨ P' q) sz r := ⟨h.src, h.cap, h.big, fun a ha => ⟨(h.pl a ha).1, (h.pl a ha).2.1, fun hq => hq.elim (h.pl a ha).2.2 (h'.pl a ha).2.2⟩, h.nil⟩
theorem SdAt.bothF {w : World} {P P' : Nat → Prop} {x : Sm} (h : SdAt w P x) (h' : SdAt w P' x) : SdAt w (fun q => P q ∨ P' q) x := ⟨h.K.bothF h'.K, h.O.bothF h'.O, h.G.bothF h'.G, h.U.bothF h'.U⟩
structure FJ (N : Nat) (w0 w : World) (S : Nat) (m : Option Nat) (cs : List Con) (SB : Nat) (us : List Int) : Prop where
  reg : ∃ xs, RegM w S m xs ∧ xs.map Sm.con = cs ∧ ∀ y ∈ xs, SdAt w (fun q => q = SB) y
  bel : Below N w0 w
  lo : ∀ q, isP S m q → N ≤ q
  blk : BL w SB (us.map (.int .i64)) 3
  ge : N ≤ SB
theorem FJ.sz {N : Nat} {w0 w : World} {S : Nat} {m : Option Nat} {cs : List Con} {SB : Nat} {us : List Int} (h : FJ N w0 w S m cs SB us) : N ≤ w.heap.size := Nat.le_trans h.ge (Nat.le_of_lt (bl_lt h.blk))
theorem FJ.start {N : Nat} {w0 w : World} {S : Nat} {m : Option Nat} {cs : List Con} (h : FI N w0 w S m cs) (k : Nat) : FJ N w0 (w.alloc (Obj.cells (madeCells #[Value.int .i64 0] k) 3)) S m cs w.heap.size (List.replicate k 0) := by
  obtain ⟨xs, h1, h2⟩ := h.reg
  have hb : Below w.heap.size w (w.alloc (Obj.cells (madeCells #[Value.int .i64 0] k) 3)) := below_alloc0 w _
  refine ⟨⟨xs, h1.grow hb, h2, fun y hy => ((h1.rows y hy).weakF (P' := fun q => q = w.heap.size) fun q hq e => absurd hq (by omega)).grow hb⟩, h.bel.trans (hb.mono h.sz), h.lo, ?_, h.sz⟩
  rw [List.map_replicate]
  unfold BL
  rw [← made_ints]
  exact heap_alloc_last w _
theorem FJ.grow {N : Nat} {w0 w w' : World} {S : Nat} {m : Option Nat} {cs : List Con} {SB : Nat} {us : List Int} (h : FJ N w0 w S m cs SB us) (hb : Below w.heap.size w w') : FJ N w0 w' S m cs SB us := by
  obtain ⟨xs, h1, h2, h3⟩ := h.reg
  exact ⟨⟨xs, h1.grow hb, h2, fun y hy => (h3 y hy).grow hb⟩, h.bel.trans (hb.mono h.sz), h.lo, bl_keep h.blk (hb.block SB (bl_lt h.blk)), h.ge⟩
theorem FJ.store {N : Nat} {w0 w : World} {S : Nat} {m : Option Nat} {cs : List Con} {SB : Nat} {us : List Int} (h : FJ N w0 w S m cs SB us) (i : Nat) (n : Int) : FJ N w0 (w.setCell ⟨SB, i, none⟩ (.int .i64 n)) S m cs SB (us.set i n) := by
  obtain ⟨xs, h1, h2, h3⟩ := h.reg
  have hn : ∀ q, isP S m q → ¬ q = SB := fun q hq e => notP_cells h1 h.blk (by decide) (e ▸ hq)
  refine ⟨⟨xs, h1.keep (fr_cellF w SB i _) hn (fun y hy => (h1.rows y hy).bothF (h3 y hy)), h2, fun y hy => (h3 y hy).keep (fr_cellF w SB i _).size (fun q _ hq => heap_set1 _ _ _ hq) fun _ _ e => e⟩, h.bel.trans ((Below.refl N w).setCell h.ge _), h.lo, ?_, h.ge⟩
  have := bl_set h.blk i (.int .i64 n)
  rwa [← List.map_set] at this
theorem fwStep2 {N : Nat} {w0 w : World} {S : Nat} {m : Option Nat} {cs : List Con} {SB k t : Nat} {us : List Int} (h : FJ N w0 w S m cs SB us) (f : FW k cs us t) (ht : t < 60) (hk : k ≤ 8) (s a n : Int) (o : List Int) (hs : wfI s) (hn : wfI n) :
    Calls Try.prog 14 #[.pointer (some ⟨S, 0, none⟩), .agg (fwV s a o n).toArray] w fun e w' => ∃ m', e = .returned (.int .i64 (fwC cs s n).2) ∧ FJ N w0 w' S m' (fwC cs s n).1 SB us ∧ ∀ q cs T, BL w q cs T → T ≠ 76 → BL w' q cs T := by
  obtain ⟨xs, hr, rfl, h3⟩ := h.reg
  refine (kForward2 S m xs s a n o w hr (by have := f.len; rw [List.length_map] at this; omega) hs hn (f.allOk (by omega))).mono ?_
  rintro e w' ⟨r, m', rfl, rfl, ⟨xs', g1, g2, g3⟩, k3, k4⟩
  refine ⟨m', rfl, ⟨⟨xs', g1, g2, fun y hy => ?_⟩, h.bel.trans (k4.below h.sz h.lo), fun q hq => hq.elim (fun e => h.lo q (.inl e)) fun e => (k3 q e).elim (fun e => h.lo q (.inr e)) fun e => Nat.le_trans h.sz e, bl_keep h.blk (k4.block SB (bl_lt h.blk) (notP_cells hr h.blk (by decide))), h.ge⟩, fun q cs T h1 h2 => bl_keep h1 (k4.block q (bl_lt h1) (notP_cells hr h1 h2))⟩
  rcases g3 y hy with hy | hy
  · exact ((hr.rows y hy).bothF (h3 y hy)).keep k4.size (fun q hq hn => k4.block q hq fun hp => hn (.inl hp)) fun _ _ e => .inr e
  · exact hy.weakF fun q _ e => by rw [e]; exact bl_lt h.blk
theorem us_cell {w : World} {SB i : Nat} {us : List Int} {T : TypeId} (h : BL w SB (us.map (.int .i64)) T) (hi : i < us.length) : w.cell? ⟨SB, i, none⟩ = some (.int .i64 (us.getD i 0)) := by
  have := range_of h i (.int .i64 (us.getD i 0)) (by rw [List.getElem?_map, List.getD_eq_getElem?_getD, List.getElem?_eq_getElem hi]; rfl)
  rwa [Nat.zero_add] at this
end Go.Proofs.Ytmcmdpbdipgahaa

/-
  RegistryForwards: what is told at the end.
-/
namespace Go.Proofs.Ytmcmdpbdipgahaa
open Go.RowKit Go.Maps
set_option maxRecDepth 100000
theorem sumN_0 (F : Nat → Int) : sumN F 0 = 0 := rfl
theorem sumN_s (F : Nat → Int) (i : Nat) : sumN F (i + 1) = sumN F i + F i := rfl
theorem sumN_ext {F G : Nat → Int} : ∀ {n : Nat}, (∀ i, i < n → F i = G i) → sumN F n = sumN G n
  | 0, _ => rfl
  | n + 1, h => by rw [sumN_s, sumN_s, sumN_ext (n := n) fun i hi => h i (by omega), h n (by omega)]
theorem sumN_bnd {F : Nat → Int} {M : Int} : ∀ {n : Nat}, (∀ i, i < n → 0 ≤ F i ∧ F i ≤ M) → 0 ≤ sumN F n ∧ sumN F n ≤ n * M
  | 0, _ => ⟨Int.le_refl _, by rw [sumN_0]; simp⟩
  | n + 1, h => by
    have h1 := sumN_bnd (n := n) fun i hi => h i (by omega)
    have h2 := h n (by omega)
    rw [sumN_s, Int.natCast_add, Int.add_mul]
    refine ⟨by omega, ?_⟩
    have : ((1 : Nat) : Int) * M = M := by simp
    rw [this]
    omega
def usF (us : List Int) (i : Nat) : Int := us.getD i 0
theorem FW.bnd {k t : Nat} {cs : List Con} {us : List Int} (f : FW k cs us t) (ht : t ≤ 60) : ∀ i, i < k → 0 ≤ usF us i ∧ usF us i ≤ 65970697666560 := fun i hi => by
  obtain ⟨_, _, _, _, _, _, g, j⟩ := f.it i hi
  unfold usF
  have : (t : Int) * 1099511627776 ≤ 60 * 1099511627776 := by omega
  omega
theorem sideF {N : Nat} {w0 w : World} {S : Nat} {m : Option Nat} {cs : List Con} {SB k t i : Nat} {us : List Int} (h : FJ N w0 w S m cs SB us) (f : FW k cs us t) (hk : k ≤ 8) (hi : i < k) :
    Calls Try.prog 16 #[.pointer (some ⟨S, 0, none⟩), .int .i64 (i : Int)] w fun e w' => ∃ x', e = .returned (.tuple #[.agg (sdV x').toArray, .bool true]) ∧ (x'.s.made = i ∧ x'.s.bal = usF us i ∧ x'.s.fwd = usF us i ∧ x'.s.mat = 0 ∧ x'.s.cla = 0) ∧ Below w.heap.size w w' := by
  obtain ⟨xs, h1, rfl, h3⟩ := h.reg
  have hl : xs.length = k := by have := f.len; rwa [List.length_map] at this
  refine (sideM S m xs i w h1 (by omega) (by omega)).mono ?_
  rintro e w' ⟨x', rfl, k1, k2, k3⟩
  obtain ⟨a, b, c, d, e', _, _, _⟩ := f.it i hi
  rw [getD_con, ← k1] at a b c d e'
  exact ⟨x', rfl, ⟨a, b, c, d, e'⟩, k3⟩
theorem totF {N : Nat} {w0 w : World} {S : Nat} {m : Option Nat} {cs : List Con} {SB k t : Nat} {us : List Int} (h : FJ N w0 w S m cs SB us) (f : FW k cs us t) (ht : t ≤ 60) (hk : k ≤ 8) :
    Calls Try.prog 27 #[.pointer (some ⟨S, 0, none⟩)] w fun e w' => e = .returned (.int .i64 (sumN (usF us) k)) ∧ Below w.heap.size w w' := by
  obtain ⟨xs, h1, rfl, h3⟩ := h.reg
  have hl : xs.length = k := by have := f.len; rwa [List.length_map] at this
  have hb : ∀ i, i < k → balF xs i = usF us i := fun i hi => by
    obtain ⟨a, b, c, d, e', _, _, _⟩ := f.it i hi
    rw [getD_con] at b
    exact b
  have := rTotal S m xs w h1 (by omega) fun i hi => by
    rw [hb i (by omega)]
    have := f.bnd ht i (by omega)
    omega
  rw [hl, sumN_ext hb] at this
  exact this
theorem lenF {N : Nat} {w0 w : World} {S : Nat} {m : Option Nat} {cs : List Con} {SB k t : Nat} {us : List Int} (h : FJ N w0 w S m cs SB us) (f : FW k cs us t) :
    Calls Try.prog 28 #[.pointer (some ⟨S, 0, none⟩)] w fun e w' => e = .returned (.int .i64 k) ∧ w = w' := by
  obtain ⟨xs, h1, rfl, h3⟩ := h.reg
  have hl : xs.length = k := by have := f.len; rwa [List.length_map] at this
  have := rLen S m xs w h1
  rwa [hl] at this
theorem sd_i {w : World} {b : Nat} {x : Sm} {T : TypeId} (h : BL w b (sdV x) T) : w.cell? ⟨b, 4, none⟩ = some (.int .i64 x.s.made) ∧ w.cell? ⟨b, 5, none⟩ = some (.int .i64 x.s.bal) ∧ w.cell? ⟨b, 6, none⟩ = some (.int .i64 x.s.fwd) ∧ w.cell? ⟨b, 7, none⟩ = some (.int .i64 x.s.mat) ∧ w.cell? ⟨b, 8, none⟩ = some (.int .i64 x.s.cla) :=
  ⟨sd_at h (i := 4) rfl, sd_at h (i := 5) rfl, sd_at h (i := 6) rfl, sd_at h (i := 7) rfl, sd_at h (i := 8) rfl⟩
end Go.Proofs.Ytmcmdpbdipgahaa
