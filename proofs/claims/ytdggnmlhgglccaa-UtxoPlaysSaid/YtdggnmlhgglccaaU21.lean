/-
  A row of deeds, a row of bytes that came in.
-/
import Derived.Test.YtdggnmlhgglccaaU20
import Derived.WideShapes
import Derived.Deep.Slices
import Derived.Deep.MidRow
import Derived.OpenShut
import Derived.ChangeOld
namespace Go.Proofs.Ytdggnmlhgglccaa
open Go.ChangeShapes Go.WideShapes Go.RowKit Go.Deep
set_option maxRecDepth 100000
def outS : Sch := hS ++ [some 7]
section
variable {H : Type} {enc' : TypeId × Value → H} {w : World} {base : Nat} {spare : Nat → Bool} {held : Bool}
/-- what a type's cells open as -/
def Opn (enc' : TypeId × Value → H) (w : World) (base : Nat) (spare : Nat → Bool) (held : Bool) (t : TypeId) (S : Sch) : Prop :=
  Try.prog.cellsOf t = S.length ∧ ∀ (fuel : Nat) (cs : List Value) (x : DataW H × List MemPlace), DataW.trod enc' Try.prog w base spare held fuel t cs = some x → ∃ r, okT okA S r ∧ cs = vals S r
theorem opn_as {t : TypeId} {S S' : Sch} (h : Opn enc' w base spare held t S) (e : S = S') : Opn enc' w base spare held t S' := e ▸ h
theorem opn_int (k : Nat) : Opn enc' w base spare held 3 [some k] := by
  refine ⟨by kernel_rfl, fun fuel cs x h => ?_⟩
  obtain ⟨z, rfl, _, hz⟩ := DataW.trod_int Try.underlying3 h
  have := bounds_i64 hz
  exact ⟨[z], ⟨⟨by omega, by omega⟩, rfl⟩, rfl⟩
theorem opn_byte : Opn enc' w base spare held 5 [none] := by
  refine ⟨by kernel_rfl, fun fuel cs x h => ?_⟩
  obtain ⟨z, rfl, _, hz⟩ := DataW.trod_int Try.underlying5 h
  have := bounds_u8 hz
  exact ⟨[z], ⟨⟨by omega, by omega⟩, rfl⟩, rfl⟩
theorem opn_cat {S T : Sch} {r q : List Int} {cs : List Value} {o : Nat} (h0 : okT okA S r) (e0 : (cs.drop o).take S.length = vals S r) (h1 : okT okA T q) (e1 : (cs.drop (o + S.length)).take T.length = vals T q) :
    okT okA (S ++ T) (r ++ q) ∧ (cs.drop o).take (S ++ T).length = vals (S ++ T) (r ++ q) := by
  have hl : r.length = S.length := okT_len h0
  have t1 : (r ++ q).take S.length = r := by rw [← hl]; simp
  have t2 : (r ++ q).drop S.length = q := by rw [← hl]; simp
  refine ⟨okT_app.2 ⟨by rw [t1]; exact h0, by rw [t2]; exact h1⟩, ?_⟩
  rw [vals_app (by rw [List.length_append]; omega), t1, t2, ← e0, ← e1, List.length_append, List.take_add, List.drop_drop]
def OpnF (enc' : TypeId × Value → H) (w : World) (base : Nat) (spare : Nat → Bool) (held : Bool) : List Field → Nat → List Sch → Prop
  | [], _, [] => True
  | f :: fl, o, S :: Ss => f.offset = o ∧ Opn enc' w base spare held f.type S ∧ OpnF enc' w base spare held fl (o + S.length) Ss
  | _, _, _ => False
theorem opn_fields {n : Nat} {cs : List Value} : ∀ {fl : List Field} {o : Nat} {Ss : List Sch}, (∀ f ∈ fl, ∃ y, DataW.trod enc' Try.prog w base spare held n f.type ((cs.drop f.offset).take (Try.prog.cellsOf f.type)) = some y) → OpnF enc' w base spare held fl o Ss →
    ∃ r, okT okA Ss.flatten r ∧ (cs.drop o).take Ss.flatten.length = vals Ss.flatten r
  | [], _, [], _, _ => ⟨[], rfl, rfl⟩
  | [], _, _ :: _, _, h => h.elim
  | _ :: _, _, [], _, h => h.elim
  | f :: fl, o, S :: Ss, ha, ⟨ho, hO, hF⟩ => by
    obtain ⟨y, hy⟩ := ha f (by simp)
    rw [ho, hO.1] at hy
    obtain ⟨r, h0, e0⟩ := hO.2 _ _ _ hy
    obtain ⟨q, h1, e1⟩ := opn_fields (fl := fl) (Ss := Ss) (fun g hg => ha g (by simp [hg])) hF
    rw [List.flatten_cons]
    exact ⟨r ++ q, opn_cat h0 e0 h1 e1⟩
theorem fields_all {t : TypeId} {fs : Array Field} {fuel : Nat} {cs : List Value} {x : DataW H × List MemPlace} (hu : Try.prog.underlying t = some (.struct fs)) (h : DataW.trod enc' Try.prog w base spare held fuel t cs = some x) :
    cs.length = Try.prog.cellsOf t ∧ ∃ n, ∀ f ∈ fs.toList, ∃ y, DataW.trod enc' Try.prog w base spare held n f.type ((cs.drop f.offset).take (Try.prog.cellsOf f.type)) = some y := by
  obtain ⟨xs, n, _, _, hl, hx, hf⟩ := DataW.trod_struct hu h
  refine ⟨hl, n, fun f hm => ?_⟩
  obtain ⟨i, hi, e⟩ := List.mem_iff_getElem.1 hm
  have hi' : i < fs.size := by simpa using hi
  have := hf i f (by rw [Array.getElem?_eq_getElem hi']; simpa using e)
  rw [List.getElem?_eq_getElem (by omega)] at this
  exact ⟨_, this⟩
theorem opn_struct {t : TypeId} {fs : Array Field} {Ss : List Sch} (hu : Try.prog.underlying t = some (.struct fs)) (hc : Try.prog.cellsOf t = Ss.flatten.length) (hF : OpnF enc' w base spare held fs.toList 0 Ss) : Opn enc' w base spare held t Ss.flatten := by
  refine ⟨hc, fun fuel cs x h => ?_⟩
  obtain ⟨hl, n, ha⟩ := fields_all hu h
  obtain ⟨r, h1, h2⟩ := opn_fields ha hF
  refine ⟨r, h1, ?_⟩
  rw [← h2, List.drop_zero, ← hc, ← hl, List.take_length]
theorem opn_items {n : Nat} {e : TypeId} {S : Sch} {cs : List Value} (hO : Opn enc' w base spare held e S) : ∀ (k i : Nat), (∀ j, i ≤ j → j < i + k → ∃ y, DataW.trod enc' Try.prog w base spare held n e ((cs.drop (j * Try.prog.cellsOf e)).take (Try.prog.cellsOf e)) = some y) →
    ∃ r, okT okA (List.replicate k S).flatten r ∧ (cs.drop (i * S.length)).take (List.replicate k S).flatten.length = vals (List.replicate k S).flatten r
  | 0, _, _ => ⟨[], rfl, rfl⟩
  | k + 1, i, ha => by
    obtain ⟨y, hy⟩ := ha i (Nat.le_refl _) (by omega)
    rw [hO.1] at hy
    obtain ⟨r, h0, e0⟩ := hO.2 _ _ _ hy
    obtain ⟨q, h1, e1⟩ := opn_items hO k (i + 1) (fun j h1 h2 => ha j (by omega) (by omega))
    rw [List.replicate_succ, List.flatten_cons]
    exact ⟨r ++ q, opn_cat h0 e0 h1 (by rw [show i * S.length + S.length = (i + 1) * S.length by rw [Nat.succ_mul]]; exact e1)⟩
theorem opn_array {t e : TypeId} {n : Nat} {S : Sch} (hu : Try.prog.underlying t = some (.array n e)) (hc : Try.prog.cellsOf t = (List.replicate n S).flatten.length) (hO : Opn enc' w base spare held e S) : Opn enc' w base spare held t (List.replicate n S).flatten := by
  refine ⟨hc, fun fuel cs x h => ?_⟩
  obtain ⟨xs, m, _, _, hl, hx, hi⟩ := DataW.trod_array hu h
  obtain ⟨r, h1, h2⟩ := opn_items (n := m) (cs := cs) hO n 0 (fun j _ hj => by
    have := hi j (by omega)
    rw [List.getElem?_eq_getElem (by omega)] at this
    exact ⟨_, this⟩)
  refine ⟨r, h1, ?_⟩
  rw [← h2, Nat.zero_mul, List.drop_zero, ← hc, ← hl, List.take_length]
theorem opn_hash : Opn enc' w base spare held 36 hS := opn_as (opn_array Try.underlying36 (by kernel_rfl) opn_byte) (by kernel_rfl)
theorem opn_out : Opn enc' w base spare held 40 outS := opn_as (opn_struct (Ss := [hS, [some 7]]) Try.underlying40 (by kernel_rfl) ⟨rfl, opn_hash, rfl, opn_int 7, trivial⟩) (by kernel_rfl)
theorem opn_point : Opn enc' w base spare held 38 (hS ++ [some 1]) := opn_as (opn_struct (Ss := [hS, [some 1]]) Try.underlying38 (by kernel_rfl) ⟨rfl, opn_hash, rfl, opn_int 1, trivial⟩) (by kernel_rfl)
/-- a deed: Do, N, the point, the coin -/
structure Dd where
  d : Int
  n : Int
  p : List Int
  c : Cn
def dV (d : Dd) : List Value := .int .i64 d.d :: .int .i64 d.n :: (ptV d.p ++ cnV d.c)
def Dd.ok (d : Dd) : Prop := okP d.p ∧ d.c.ok ∧ (-9223372036854775808 ≤ d.d ∧ d.d < 9223372036854775808) ∧ (-9223372036854775808 ≤ d.n ∧ d.n < 9223372036854775808)
theorem opn_coin {fuel : Nat} {cs : List Value} {x : DataW H × List MemPlace} (h : DataW.trod enc' Try.prog w base spare held fuel 42 cs = some x) : ∃ c : Cn, c.ok ∧ cs = cnV c := by
  obtain ⟨hl, n, ha⟩ := fields_all Try.underlying42 h
  have hl : cs.length = 11 := hl.trans (by kernel_rfl)
  obtain ⟨r, h1, h2⟩ := opn_fields (enc' := enc') (cs := cs) (Ss := [outS, [some 1]]) (fun f hf => ha f (List.mem_of_mem_take (i := 2) hf)) ⟨rfl, opn_out, rfl, opn_int 1, trivial⟩
  obtain ⟨y, hy⟩ := ha _ (List.mem_of_getElem? (i := 2) rfl)
  obtain ⟨b, e1, _⟩ := DataW.trod_bool Try.underlying4 hy
  refine ⟨⟨r, b⟩, h1, ?_⟩
  have e2 : (cs.drop 0).take 10 = vals cnS r := h2
  have e3 : cs.drop 10 = [.bool b] := by rw [← e1]; exact (List.take_of_length_le (by rw [List.length_drop, hl]; decide)).symm
  rw [List.drop_zero] at e2
  unfold cnV
  show cs = vals cnS r ++ [.bool b]
  rw [← e2, ← e3, List.take_append_drop]
theorem opn_deed {fuel : Nat} {cs : List Value} {x : DataW H × List MemPlace} (h : DataW.trod enc' Try.prog w base spare held fuel 44 cs = some x) : ∃ d : Dd, d.ok ∧ cs = dV d := by
  obtain ⟨hl, n, ha⟩ := fields_all Try.underlying44 h
  have hl : cs.length = 22 := hl.trans (by kernel_rfl)
  obtain ⟨y0, h0⟩ := ha _ (List.mem_of_getElem? (i := 0) rfl)
  obtain ⟨y1, h1⟩ := ha _ (List.mem_of_getElem? (i := 1) rfl)
  obtain ⟨y2, h2⟩ := ha _ (List.mem_of_getElem? (i := 2) rfl)
  obtain ⟨y3, h3⟩ := ha _ (List.mem_of_getElem? (i := 3) rfl)
  obtain ⟨z0, e0, _, w0⟩ := DataW.trod_int Try.underlying3 h0
  obtain ⟨z1, e1, _, w1⟩ := DataW.trod_int Try.underlying3 h1
  obtain ⟨p, o2, e2⟩ := opn_point.2 _ _ _ h2
  obtain ⟨c, o3, e3⟩ := opn_coin h3
  have b0 := bounds_i64 w0
  have b1 := bounds_i64 w1
  refine ⟨⟨z0, z1, p, c⟩, ⟨o2, o3, ⟨by show _ ≤ z0; omega, by show z0 < _; omega⟩, ⟨by show _ ≤ z1; omega, by show z1 < _; omega⟩⟩, ?_⟩
  have c0 : (cs.drop 0).take 1 = [.int .i64 z0] := e0
  have c1 : (cs.drop 1).take 1 = [.int .i64 z1] := e1
  have c2 : (cs.drop 2).take 9 = ptV p := e2
  have c3 : (cs.drop 11).take 11 = cnV c := e3
  show cs = [.int .i64 z0] ++ ([.int .i64 z1] ++ (ptV p ++ cnV c))
  rw [← c0, ← c1, ← c2, ← c3, List.take_of_length_le (l := cs.drop 11) (by rw [List.length_drop, hl]; decide)]
  have : ∀ (o a : Nat), cs.drop o = (cs.drop o).take a ++ cs.drop (o + a) := fun o a => by rw [← List.drop_drop, List.take_append_drop]
  rw [← this 2 9, ← this 1 1, ← this 0 1, List.drop_zero]
/-- a row of deeds in memory -/
def DRow (w : World) (A : Option Addr) (n : Nat) (D : Nat → Dd) : Prop := n = 0 ∨ ∃ b o, A = some ⟨b, o, none⟩ ∧ ∀ i, i < n → w.rangeAt b (o + i * 22) (dV (D i))
def d0 : Dd := ⟨0, 0, zeros 9, cn0⟩
theorem dV_len {d : Dd} (h : d.ok) : (dV d).length = 22 := by unfold dV; simp [ptV_len h.1, cnV_len h.2.1.len]
theorem d0_ok : d0.ok := ⟨stD_okP, cn0_ok, ⟨by decide, by decide⟩, ⟨by decide, by decide⟩⟩
theorem open_deeds {fuel : Nat} {cs : List Value} {x : DataW H × List MemPlace} (h : DataW.trod enc' Try.prog w base spare held fuel 22 cs = some x) :
    ∃ (A : Option Addr) (len cap : Nat) (D : Nat → Dd), cs = [.slice A len cap] ∧ DRow w A len D ∧ (∀ i, (D i).ok) ∧ len ≤ cap ∧ cap ≤ 9223372036854775807 := by
  have k : Try.prog.cellsOf 44 = 22 := by kernel_rfl
  rcases open_slice Try.underlying22 h with ⟨rfl, hx⟩ | ⟨a, l, c, m, n, D, Pl, rfl, hb, hl, hm, hmm, hx, hcell⟩
  · exact ⟨none, 0, 0, fun _ => d0, rfl, .inl rfl, fun _ => d0_ok, Nat.le_refl _, by decide⟩
  · have hml : l ≤ m := by rw [hmm]; split <;> omega
    unfold maxLen at hm
    by_cases hz : l = 0
    · subst hz
      exact ⟨some a, 0, c, fun _ => d0, rfl, .inl rfl, fun _ => d0_ok, hl, hm⟩
    · obtain ⟨b, off, spot⟩ := a
      have hh : ∀ i, ∃ d : Dd, d.ok ∧ (i < l → ∀ j v, (dV d)[j]? = some v → w.cell? ((Addr.mk b off spot).add (i * 22 + j)) = some v) := by
        intro i
        by_cases hi : i < l
        · obtain ⟨cs', h1, h2⟩ := hcell i (by omega)
          obtain ⟨d, g1, g2⟩ := opn_deed h2
          rw [k] at h1
          obtain ⟨_, hlen, hc2⟩ := World.cells?_some h1
          refine ⟨d, g1, fun _ j v hv => ?_⟩
          rw [← g2] at hv
          have hj := (List.getElem?_eq_some_iff.1 hv).1
          have := hc2 j (by omega)
          rw [Go.Deep.add_add] at this
          rw [this, hv]
        · exact ⟨d0, d0_ok, fun h => absurd h hi⟩
      have hD := fun i => Classical.choose_spec (hh i)
      have hspot : spot = none := by
        have h4 := (hD 0).2 (by omega) 0 _ (List.getElem?_eq_getElem (show 0 < (dV _).length by rw [dV_len (hD 0).1]; decide))
        simpa [Addr.add] using World.cell?_spot h4
      subst hspot
      refine ⟨some ⟨b, off, none⟩, l, c, fun i => Classical.choose (hh i), rfl, .inr ⟨b, off, rfl, fun i hi => ?_⟩, fun i => (hD i).1, hl, hm⟩
      intro j v hv
      have := (hD i).2 hi j v hv
      rwa [Addr.add_mid, ← Nat.add_assoc] at this
/-- a row of deeds that came in -/
theorem deeds_of {r : Reach} {b0 : Nat} {v : Value} {d : DataW H} {p : List MemPlace} (hv : Value.okWide Try.prog w r b0 22 v) (hd : DataW.Trod enc' Try.prog w base spare held 22 v d p) :
    ∃ (A : Option Addr) (len cap : Nat) (D : Nat → Dd), v = .slice A len cap ∧ DRow w A len D ∧ (∀ i, (D i).ok) ∧ len ≤ cap ∧ cap ≤ 9223372036854775807 := by
  obtain ⟨a, l, c, rfl⟩ := okWide_slice Try.underlying22 hv
  obtain ⟨fuel, hf⟩ := hd
  obtain ⟨A, len, cap, D, e, rest⟩ := open_deeds hf
  simp [Value.cells] at e
  obtain ⟨rfl, rfl, rfl⟩ := e
  exact ⟨_, _, _, D, rfl, rest⟩
/-- a row of bytes in memory -/
def BRow (w : World) (A : Option Addr) (n : Nat) (D : Nat → Int) : Prop := n = 0 ∨ ∃ b o, A = some ⟨b, o, none⟩ ∧ ∀ i, i < n → w.cell? ⟨b, o + i, none⟩ = some (.int .u8 (D i))
theorem open_brow {fuel : Nat} {cs : List Value} {x : DataW H × List MemPlace} (h : DataW.trod enc' Try.prog w base spare held fuel 65 cs = some x) :
    ∃ (A : Option Addr) (len cap : Nat) (D : Nat → Int), cs = [.slice A len cap] ∧ BRow w A len D ∧ (∀ i, 0 ≤ D i ∧ D i < 256) ∧ len ≤ cap ∧ cap ≤ 9223372036854775807 := by
  have k : Try.prog.cellsOf 5 = 1 := by kernel_rfl
  rcases open_slice Try.underlying65 h with ⟨rfl, hx⟩ | ⟨a, l, c, m, n, D, Pl, rfl, hb, hl, hm, hmm, hx, hcell⟩
  · exact ⟨none, 0, 0, fun _ => 0, rfl, .inl rfl, fun _ => ⟨Int.le_refl 0, Int.lt_of_lt_of_le Int.zero_lt_one (by decide)⟩, Nat.le_refl _, by decide⟩
  · have hml : l ≤ m := by rw [hmm]; split <;> omega
    unfold maxLen at hm
    by_cases hz : l = 0
    · subst hz
      exact ⟨some a, 0, c, fun _ => 0, rfl, .inl rfl, fun _ => ⟨Int.le_refl 0, Int.lt_of_lt_of_le Int.zero_lt_one (by decide)⟩, hl, hm⟩
    · obtain ⟨b, off, spot⟩ := a
      have hh : ∀ i, ∃ d : Int, (0 ≤ d ∧ d < 256) ∧ (i < l → w.cell? ((Addr.mk b off spot).add i) = some (.int .u8 d)) := by
        intro i
        by_cases hi : i < l
        · obtain ⟨cs', h1, h2⟩ := hcell i (by omega)
          obtain ⟨z, rfl, _, hz⟩ := DataW.trod_int Try.underlying5 h2
          have := bounds_u8 hz
          rw [k] at h1
          obtain ⟨_, hlen, hc2⟩ := World.cells?_some h1
          refine ⟨z, ⟨by omega, by omega⟩, fun _ => ?_⟩
          have := hc2 0 (by omega)
          rw [Go.Deep.add_add] at this
          simpa using this
        · exact ⟨0, ⟨by decide, by decide⟩, fun h => absurd h hi⟩
      have hD := fun i => Classical.choose_spec (hh i)
      have hspot : spot = none := by
        have h4 := (hD 0).2 (by omega)
        simpa [Addr.add] using World.cell?_spot h4
      subst hspot
      refine ⟨some ⟨b, off, none⟩, l, c, fun i => Classical.choose (hh i), rfl, .inr ⟨b, off, rfl, fun i hi => ?_⟩, fun i => (hD i).1, hl, hm⟩
      exact (congrArg w.cell? (Addr.add_mid b off i)).symm.trans ((hD i).2 hi)
/-- a row of bytes that came in -/
theorem brow_of {r : Reach} {b0 : Nat} {v : Value} {d : DataW H} {p : List MemPlace} (hv : Value.okWide Try.prog w r b0 65 v) (hd : DataW.Trod enc' Try.prog w base spare held 65 v d p) :
    ∃ (A : Option Addr) (len cap : Nat) (D : Nat → Int), v = .slice A len cap ∧ BRow w A len D ∧ (∀ i, 0 ≤ D i ∧ D i < 256) ∧ len ≤ cap ∧ cap ≤ 9223372036854775807 := by
  obtain ⟨a, l, c, rfl⟩ := okWide_slice Try.underlying65 hv
  obtain ⟨fuel, hf⟩ := hd
  obtain ⟨A, len, cap, D, e, rest⟩ := open_brow hf
  simp [Value.cells] at e
  obtain ⟨rfl, rfl, rfl⟩ := e
  exact ⟨_, _, _, D, rfl, rest⟩
end
end Go.Proofs.Ytdggnmlhgglccaa
