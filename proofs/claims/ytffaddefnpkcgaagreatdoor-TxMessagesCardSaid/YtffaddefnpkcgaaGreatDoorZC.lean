/-
  A transaction that came in.
-/
import Derived.Test.YtffaddefnpkcgaaGreatDoorZB
import Derived.Test.YtffaddefnpkcgaaGreatDoorZHO1
import Derived.Deep.Slices
import Derived.Deep.MidRow
namespace Go.Proofs.YtffaddefnpkcgaaGreatDoor
open Go.ChangeShapes Go.WideShapes Go.ChangeAt Go.RowKit Go.Deep
set_option maxRecDepth 100000
section
variable {H : Type} {enc' : TypeId × Value → H} {w : World} {base : Nat} {spare : Nat → Bool} {held : Bool}
def Opn (enc' : TypeId × Value → H) (w : World) (base : Nat) (spare : Nat → Bool) (held : Bool) (t : TypeId) (S : Sch) : Prop :=
  Tryz.prog.cellsOf t = S.length ∧ ∀ (fuel : Nat) (cs : List Value) (x : DataW H × List MemPlace), DataW.trod enc' Tryz.prog w base spare held fuel t cs = some x → ∃ r, okT okA S r ∧ cs = vals S r
theorem opn_as {t : TypeId} {S S' : Sch} (h : Opn enc' w base spare held t S) (e : S = S') : Opn enc' w base spare held t S' := e ▸ h
theorem opn_int (k : Nat) : Opn enc' w base spare held 3 [some k] := by
  refine ⟨by kernel_rfl, fun fuel cs x h => ?_⟩
  obtain ⟨z, rfl, _, hz⟩ := DataW.trod_int Tryz.underlying3 h
  have := bounds_i64 hz
  exact ⟨[z], ⟨⟨by omega, by omega⟩, rfl⟩, rfl⟩
theorem opn_byte : Opn enc' w base spare held 5 [none] := by
  refine ⟨by kernel_rfl, fun fuel cs x h => ?_⟩
  obtain ⟨z, rfl, _, hz⟩ := DataW.trod_int Tryz.underlying5 h
  have := bounds_u8 hz
  exact ⟨[z], ⟨⟨by omega, by omega⟩, rfl⟩, rfl⟩
theorem opn_cat {S T : Sch} {r q : List Int} {cs : List Value} {o : Nat} (h0 : okT okA S r) (e0 : (cs.drop o).take S.length = vals S r) (h1 : okT okA T q) (e1 : (cs.drop (o + S.length)).take T.length = vals T q) :
    okT okA (S ++ T) (r ++ q) ∧ (cs.drop o).take (S ++ T).length = vals (S ++ T) (r ++ q) := by
  have hl : r.length = S.length := okT_len h0
  have t1 : (r ++ q).take S.length = r := by rw [← hl]; simp
  have t2 : (r ++ q).drop S.length = q := by rw [← hl]; simp
  refine ⟨okT_app.2 ⟨by rw [t1]; exact h0, by rw [t2]; exact h1⟩, ?_⟩
  rw [vals_app (by rw [List.length_append]; omega), t1, t2, ← e0, ← e1, List.length_append, List.take_add, List.drop_drop]
def OpnF (enc' : TypeId × Value → H) (w : World) (base : Nat) (spare : Nat → Bool) (held : Bool) : List Field → Nat → List Sch → Prop
  | [], _, [] => True
  | f :: fl, o, S :: Ss => f.offset = o ∧ Opn enc' w base spare held f.type S ∧ OpnF enc' w base spare held fl (o + S.length) Ss
  | _, _, _ => False
theorem opn_fields {n : Nat} {cs : List Value} : ∀ {fl : List Field} {o : Nat} {Ss : List Sch}, (∀ f ∈ fl, ∃ y, DataW.trod enc' Tryz.prog w base spare held n f.type ((cs.drop f.offset).take (Tryz.prog.cellsOf f.type)) = some y) → OpnF enc' w base spare held fl o Ss →
    ∃ r, okT okA Ss.flatten r ∧ (cs.drop o).take Ss.flatten.length = vals Ss.flatten r
  | [], _, [], _, _ => ⟨[], rfl, rfl⟩
  | [], _, _ :: _, _, h => h.elim
  | _ :: _, _, [], _, h => h.elim
  | f :: fl, o, S :: Ss, ha, ⟨ho, hO, hF⟩ => by
    obtain ⟨y, hy⟩ := ha f (by simp)
    rw [ho, hO.1] at hy
    obtain ⟨r, h0, e0⟩ := hO.2 _ _ _ hy
    obtain ⟨q, h1, e1⟩ := opn_fields (fl := fl) (Ss := Ss) (fun g hg => ha g (by simp [hg])) hF
    rw [List.flatten_cons]
    exact ⟨r ++ q, opn_cat h0 e0 h1 e1⟩
theorem fields_all {t : TypeId} {fs : Array Field} {fuel : Nat} {cs : List Value} {x : DataW H × List MemPlace} (hu : Tryz.prog.underlying t = some (.struct fs)) (h : DataW.trod enc' Tryz.prog w base spare held fuel t cs = some x) :
    cs.length = Tryz.prog.cellsOf t ∧ ∃ n, ∀ f ∈ fs.toList, ∃ y, DataW.trod enc' Tryz.prog w base spare held n f.type ((cs.drop f.offset).take (Tryz.prog.cellsOf f.type)) = some y := by
  obtain ⟨xs, n, _, _, hl, hx, hf⟩ := DataW.trod_struct hu h
  refine ⟨hl, n, fun f hm => ?_⟩
  obtain ⟨i, hi, e⟩ := List.mem_iff_getElem.1 hm
  have hi' : i < fs.size := by simpa using hi
  have := hf i f (by rw [Array.getElem?_eq_getElem hi']; simpa using e)
  rw [List.getElem?_eq_getElem (by omega)] at this
  exact ⟨_, this⟩
theorem opn_struct {t : TypeId} {fs : Array Field} {Ss : List Sch} (hu : Tryz.prog.underlying t = some (.struct fs)) (hc : Tryz.prog.cellsOf t = Ss.flatten.length) (hF : OpnF enc' w base spare held fs.toList 0 Ss) : Opn enc' w base spare held t Ss.flatten := by
  refine ⟨hc, fun fuel cs x h => ?_⟩
  obtain ⟨hl, n, ha⟩ := fields_all hu h
  obtain ⟨r, h1, h2⟩ := opn_fields ha hF
  refine ⟨r, h1, ?_⟩
  rw [← h2, List.drop_zero, ← hc, ← hl, List.take_length]
theorem opn_items {n : Nat} {e : TypeId} {S : Sch} {cs : List Value} (hO : Opn enc' w base spare held e S) : ∀ (k i : Nat), (∀ j, i ≤ j → j < i + k → ∃ y, DataW.trod enc' Tryz.prog w base spare held n e ((cs.drop (j * Tryz.prog.cellsOf e)).take (Tryz.prog.cellsOf e)) = some y) →
    ∃ r, okT okA (List.replicate k S).flatten r ∧ (cs.drop (i * S.length)).take (List.replicate k S).flatten.length = vals (List.replicate k S).flatten r
  | 0, _, _ => ⟨[], rfl, rfl⟩
  | k + 1, i, ha => by
    obtain ⟨y, hy⟩ := ha i (Nat.le_refl _) (by omega)
    rw [hO.1] at hy
    obtain ⟨r, h0, e0⟩ := hO.2 _ _ _ hy
    obtain ⟨q, h1, e1⟩ := opn_items hO k (i + 1) (fun j h1 h2 => ha j (by omega) (by omega))
    rw [List.replicate_succ, List.flatten_cons]
    exact ⟨r ++ q, opn_cat h0 e0 h1 (by rw [show i * S.length + S.length = (i + 1) * S.length by rw [Nat.succ_mul]]; exact e1)⟩
theorem opn_array {t e : TypeId} {n : Nat} {S : Sch} (hu : Tryz.prog.underlying t = some (.array n e)) (hc : Tryz.prog.cellsOf t = (List.replicate n S).flatten.length) (hO : Opn enc' w base spare held e S) : Opn enc' w base spare held t (List.replicate n S).flatten := by
  refine ⟨hc, fun fuel cs x h => ?_⟩
  obtain ⟨xs, m, _, _, hl, hx, hi⟩ := DataW.trod_array hu h
  obtain ⟨r, h1, h2⟩ := opn_items (n := m) (cs := cs) hO n 0 (fun j _ hj => by
    have := hi j (by omega)
    rw [List.getElem?_eq_getElem (by omega)] at this
    exact ⟨_, this⟩)
  refine ⟨r, h1, ?_⟩
  rw [← h2, Nat.zero_mul, List.drop_zero, ← hc, ← hl, List.take_length]
theorem opn_hash : Opn enc' w base spare held 29 hS := opn_as (opn_array Tryz.underlying29 (by kernel_rfl) opn_byte) (by kernel_rfl)
theorem opn_h16 : Opn enc' w base spare held 35 (List.replicate 128 none) := opn_as (opn_array Tryz.underlying35 (by kernel_rfl) opn_hash) (by kernel_rfl)
theorem opn_h3 : Opn enc' w base spare held 56 (List.replicate 24 none) := opn_as (opn_array Tryz.underlying56 (by kernel_rfl) opn_hash) (by kernel_rfl)
theorem opn_out : Opn enc' w base spare held 115 outS := opn_as (opn_struct (Ss := [hS, [some 7]]) Tryz.underlying115 (by kernel_rfl) ⟨rfl, opn_hash, rfl, opn_int 7, trivial⟩) (by kernel_rfl)
theorem opn_sig : Opn enc' w base spare held 58 sigS := opn_as (opn_struct (Ss := [[some 1], List.replicate 128 none, List.replicate 128 none, List.replicate 24 none]) Tryz.underlying58 (by kernel_rfl) ⟨rfl, opn_int 1, rfl, opn_h16, rfl, opn_h16, rfl, opn_h3, trivial⟩) (by kernel_rfl)
theorem opn_point : Opn enc' w base spare held 61 (hS ++ [some 1]) := opn_as (opn_struct (Ss := [hS, [some 1]]) Tryz.underlying61 (by kernel_rfl) ⟨rfl, opn_hash, rfl, opn_int 1, trivial⟩) (by kernel_rfl)
theorem opn_in : Opn enc' w base spare held 63 inS := opn_as (opn_struct (Ss := [hS ++ [some 1], hS, sigS]) Tryz.underlying63 (by kernel_rfl) ⟨rfl, opn_point, rfl, opn_hash, rfl, opn_sig, trivial⟩) (by kernel_rfl)
theorem opn_fwd : Opn enc' w base spare held 123 fwdS := opn_as (opn_struct (Ss := [[some 1], [some 2], hS, [some 7]]) Tryz.underlying123 (by kernel_rfl) ⟨rfl, opn_int 1, rfl, opn_int 2, rfl, opn_hash, rfl, opn_int 7, trivial⟩) (by kernel_rfl)
theorem opn_sgn : Opn enc' w base spare held 66 sgnS := opn_as (opn_struct (Ss := [[some 1], sigS]) Tryz.underlying66 (by kernel_rfl) ⟨rfl, opn_int 1, rfl, opn_sig, trivial⟩) (by kernel_rfl)
theorem opn_acc : Opn enc' w base spare held 34 (hS ++ ([some 7, some 1] : Sch)) := opn_as (opn_struct (Ss := [hS, [some 7], [some 1]]) Tryz.underlying34 (by kernel_rfl) ⟨rfl, opn_hash, rfl, opn_int 7, rfl, opn_int 1, trivial⟩) (by kernel_rfl)
theorem opn_cla : Opn enc' w base spare held 37 claS := opn_as (opn_struct (Ss := [[some 1], [some 2], hS ++ ([some 7, some 1] : Sch), List.replicate 128 none]) Tryz.underlying37 (by kernel_rfl) ⟨rfl, opn_int 1, rfl, opn_int 2, rfl, opn_acc, rfl, opn_h16, trivial⟩) (by kernel_rfl)
theorem row_of {t e : TypeId} {S : Sch} {fuel : Nat} {cs : List Value} {x : DataW H × List MemPlace} (hu : Tryz.prog.underlying t = some (.slice e)) (hO : Opn enc' w base spare held e S) (hS : 0 < S.length) (h : DataW.trod enc' Tryz.prog w base spare held fuel t cs = some x) :
    ∃ (s : Sl) (rs : List (List Int)), cs = [s.v rs.length] ∧ LRow S w s.A rs ∧ AllR S rs ∧ Cap s rs.length := by
  rcases open_slice hu h with ⟨rfl, hx⟩ | ⟨a, l, c, m, n, D, Pl, rfl, hb, hl, hm, hmm, hx, hcell⟩
  · exact ⟨⟨none, 0⟩, [], rfl, .inl rfl, fun r hr => (by cases hr), ⟨Nat.le_refl _, Nat.zero_le _, fun _ => rfl⟩⟩
  · have hml : l ≤ m := by rw [hmm]; split <;> omega
    have hcap : Cap ⟨some a, c⟩ l := ⟨hl, hm, fun h => by cases h⟩
    by_cases hz : l = 0
    · subst hz
      exact ⟨⟨some a, c⟩, [], rfl, .inl rfl, fun r hr => (by cases hr), hcap⟩
    · obtain ⟨b, off, spot⟩ := a
      have hh : ∀ i, ∃ r : List Int, i < l → okT okA S r ∧ (∀ j v, (vals S r)[j]? = some v → w.cell? ((Addr.mk b off spot).add (i * S.length + j)) = some v) := by
        intro i
        by_cases hi : i < l
        · obtain ⟨cs', h1, h2⟩ := hcell i (by omega)
          obtain ⟨r, g1, g2⟩ := hO.2 _ _ _ h2
          rw [hO.1] at h1
          obtain ⟨_, hlen, hc2⟩ := World.cells?_some h1
          refine ⟨r, fun _ => ⟨g1, fun j v hv => ?_⟩⟩
          rw [← g2] at hv
          have hj := (List.getElem?_eq_some_iff.1 hv).1
          have := hc2 j (by omega)
          rw [Go.Deep.add_add] at this
          rw [this, hv]
        · exact ⟨[], fun h => absurd h hi⟩
      obtain ⟨F, hF⟩ : ∃ F : Nat → List Int, ∀ i, i < l → okT okA S (F i) ∧ (∀ j v, (vals S (F i))[j]? = some v → w.cell? ((Addr.mk b off spot).add (i * S.length + j)) = some v) := ⟨fun i => Classical.choose (hh i), fun i => Classical.choose_spec (hh i)⟩
      have hspot : spot = none := by
        have hlen : (vals S (F 0)).length = S.length := vals_len (okT_len (hF 0 (by omega)).1)
        have h4 := (hF 0 (by omega)).2 0 _ (List.getElem?_eq_getElem (show 0 < (vals S (F 0)).length by omega))
        simpa [Addr.add] using World.cell?_spot h4
      subst hspot
      have hg : ∀ i, i < l → rcd ((List.range l).map F) i = F i := fun i hi => by simp [rcd, List.getD, hi]
      refine ⟨⟨some ⟨b, off, none⟩, c⟩, (List.range l).map F, by simp [Sl.v], .inr ⟨b, off, rfl, fun i hi => ?_⟩, fun r hr => ?_, by simpa using hcap⟩
      · rw [List.length_map, List.length_range] at hi
        rw [hg i hi]
        intro j v hv
        have := (hF i hi).2 j v hv
        rwa [Addr.add_mid, ← Nat.add_assoc] at this
      · obtain ⟨i, hi, rfl⟩ := List.mem_map.1 hr
        exact (hF i (by simpa using hi)).1
theorem piece {cs : List Value} (o a : Nat) : cs.drop o = (cs.drop o).take a ++ cs.drop (o + a) := by
  rw [← List.drop_drop, List.take_append_drop]
theorem piece_last {cs : List Value} (o a : Nat) (h : cs.length = o + a) : cs.drop o = (cs.drop o).take a := by
  rw [List.take_of_length_le]; rw [List.length_drop]; omega
theorem par_open {fuel : Nat} {cs : List Value} {x : DataW H × List MemPlace} (h : DataW.trod enc' Tryz.prog w base spare held fuel 27 cs = some x) :
    ∃ (p : List Int) (s : Sl) (rs : List (List Int)), cs = vals parS p ++ [s.v rs.length] ∧ okT okA parS p ∧ LRow hS w s.A rs ∧ AllR hS rs ∧ Cap s rs.length := by
  obtain ⟨hl, n, ha⟩ := fields_all Tryz.underlying27 h
  have hl4 : cs.length = 4 := hl.trans (by kernel_rfl)
  obtain ⟨y, hy⟩ := ha _ (List.mem_of_getElem? (i := 3) rfl)
  obtain ⟨s, rs, e3, r1, r2, r3⟩ := row_of Tryz.underlying25 opn_hash (by decide) hy
  obtain ⟨p, h1, h2⟩ := opn_fields (enc' := enc') (cs := cs) (Ss := [[some 1], [some 1], [some 1]]) (fun f hf => ha f (List.mem_of_mem_take (i := 3) hf)) ⟨rfl, opn_int 1, rfl, opn_int 1, rfl, opn_int 1, trivial⟩
  refine ⟨p, s, rs, ?_, h1, r1, r2, r3⟩
  exact ((piece 0 3).trans (congrArg _ (piece_last 3 1 hl4))).trans (congr (congrArg _ h2) e3)
theorem cer_open {fuel : Nat} {cs : List Value} {x : DataW H × List MemPlace} (h : DataW.trod enc' Tryz.prog w base spare held fuel 32 cs = some x) :
    ∃ (p : List Int) (s : Sl) (rs : List (List Int)) (s' : Sl) (qs : List (List Int)), cs = vals cerS p ++ [s.v rs.length, s'.v qs.length] ∧ okT okA cerS p ∧ (LRow outS w s.A rs ∧ AllR outS rs ∧ Cap s rs.length) ∧ LRow sgnS w s'.A qs ∧ AllR sgnS qs ∧ Cap s' qs.length := by
  obtain ⟨hl, n, ha⟩ := fields_all Tryz.underlying32 h
  have hl4 : cs.length = 21 := hl.trans (by kernel_rfl)
  obtain ⟨y, hy⟩ := ha _ (List.mem_of_getElem? (i := 5) rfl)
  obtain ⟨z, hz⟩ := ha _ (List.mem_of_getElem? (i := 6) rfl)
  obtain ⟨s, rs, e3, r⟩ := row_of Tryz.underlying23 opn_out (by decide) hy
  obtain ⟨s', qs, e4, r'⟩ := row_of Tryz.underlying30 opn_sgn (by decide) hz
  obtain ⟨p, h1, h2⟩ := opn_fields (enc' := enc') (cs := cs) (Ss := [[some 1], [some 4], [some 4], hS, hS]) (fun f hf => ha f (List.mem_of_mem_take (i := 5) hf)) ⟨rfl, opn_int 1, rfl, opn_int 4, rfl, opn_int 4, rfl, opn_hash, rfl, opn_hash, trivial⟩
  refine ⟨p, s, rs, s', qs, ?_, h1, r, r'⟩
  exact ((piece 0 19).trans (congrArg _ ((piece 19 1).trans (congrArg _ (piece_last 20 1 hl4))))).trans (congr (congrArg _ h2) (congr (congrArg _ e3) e4))
theorem tx_open {fuel : Nat} {cs : List Value} {x : DataW H × List MemPlace} (h : DataW.trod enc' Tryz.prog w base spare held fuel 39 cs = some x) :
    ∃ (t : TxP) (k : TxH), cs = txC t k ∧ WfT t ∧ Mem w t k := by
  obtain ⟨hl, n, ha⟩ := fields_all Tryz.underlying39 h
  have hl4 : cs.length = 170 := hl.trans (by kernel_rfl)
  obtain ⟨y0, g0⟩ := ha _ (List.mem_of_getElem? (i := 0) rfl)
  obtain ⟨y1, g1⟩ := ha _ (List.mem_of_getElem? (i := 1) rfl)
  obtain ⟨y2, g2⟩ := ha _ (List.mem_of_getElem? (i := 2) rfl)
  obtain ⟨y3, g3⟩ := ha _ (List.mem_of_getElem? (i := 3) rfl)
  obtain ⟨y4, g4⟩ := ha _ (List.mem_of_getElem? (i := 4) rfl)
  obtain ⟨y5, g5⟩ := ha _ (List.mem_of_getElem? (i := 5) rfl)
  obtain ⟨y6, g6⟩ := ha _ (List.mem_of_getElem? (i := 6) rfl)
  obtain ⟨y7, g7⟩ := ha _ (List.mem_of_getElem? (i := 7) rfl)
  obtain ⟨kd, e0, _, b0⟩ := DataW.trod_int Tryz.underlying3 g0
  obtain ⟨ht, e1, _, b1⟩ := DataW.trod_int Tryz.underlying3 g1
  have b0 := bounds_i64 b0
  have b1 := bounds_i64 b1
  obtain ⟨si, ri, e2, a2, o2, c2⟩ := row_of Tryz.underlying22 opn_in (by decide) g2
  obtain ⟨so, ro, e3, a3, o3, c3⟩ := row_of Tryz.underlying23 opn_out (by decide) g3
  obtain ⟨sf, rf, e4, a4, o4, c4⟩ := row_of Tryz.underlying24 opn_fwd (by decide) g4
  obtain ⟨pp, sk, rk, e5, p5, a5, o5, c5⟩ := par_open g5
  obtain ⟨pc, sc, rc, ss, rs, e6, p6, ⟨a6, o6, c6⟩, a7, o7, c7⟩ := cer_open g6
  obtain ⟨pl, p7, e7⟩ := opn_cla.2 _ _ _ g7
  refine ⟨⟨kd, ht, ri, ro, rf, pp, rk, pc, rc, rs, pl⟩, ⟨si, so, sf, sk, sc, ss⟩, ?_, ⟨⟨b0.1, Int.lt_of_le_of_lt b0.2 (by decide)⟩, ⟨b1.1, Int.lt_of_le_of_lt b1.2 (by decide)⟩, o2, o3, o4, p5, o5, p6, o6, o7, p7⟩, ⟨a2, a3, a4, a5, a6, a7, c2, c3, c4, c5, c6, c7⟩⟩
  refine Eq.trans (b := [.int .i64 kd] ++ ([.int .i64 ht] ++ ([si.v ri.length] ++ ([so.v ro.length] ++ ([sf.v rf.length] ++ ((vals parS pp ++ [sk.v rk.length]) ++ ((vals cerS pc ++ [sc.v rc.length, ss.v rs.length]) ++ vals claS pl))))))) ?_ rfl
  exact ((piece 0 1).trans (congrArg _ ((piece 1 1).trans (congrArg _ ((piece 2 1).trans (congrArg _ ((piece 3 1).trans (congrArg _ ((piece 4 1).trans (congrArg _ ((piece 5 4).trans (congrArg _ ((piece 9 21).trans (congrArg _ (piece_last 30 140 hl4))))))))))))))).trans
    (congr (congrArg _ e0) (congr (congrArg _ e1) (congr (congrArg _ e2) (congr (congrArg _ e3) (congr (congrArg _ e4) (congr (congrArg _ e5) (congr (congrArg _ e6) e7)))))))
theorem okWide_structT {P : Program} {r : Reach} {b0 : Nat} {v : Value} {t : TypeId} {fs : Array Field} (ht : P.underlying t = some (.struct fs)) (h : Value.okWide P w r b0 t v) : ∃ cs : Array Value, v = .agg cs := by
  simp only [Value.okWide, ht] at h
  obtain ⟨cs, h1, _⟩ := h
  exact ⟨cs, h1⟩
theorem tx_of {r : Reach} {b0 : Nat} {v : Value} {d : DataW H} {p : List MemPlace} (hv : Value.okWide Tryz.prog w r b0 39 v) (hd : DataW.Trod enc' Tryz.prog w base spare held 39 v d p) :
    ∃ (t : TxP) (k : TxH), v = .agg (txC t k).toArray ∧ WfT t ∧ Mem w t k := by
  obtain ⟨cs, rfl⟩ := okWide_structT Tryz.underlying39 hv
  obtain ⟨fuel, h⟩ := hd
  obtain ⟨t, k, e, h1, h2⟩ := tx_open h
  simp only [Value.cells] at e
  exact ⟨t, k, by rw [← e], h1, h2⟩
end
end Go.Proofs.YtffaddefnpkcgaaGreatDoor

