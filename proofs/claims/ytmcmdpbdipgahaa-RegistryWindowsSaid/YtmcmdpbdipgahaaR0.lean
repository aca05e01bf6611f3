/-
  A sidechain's record: its cells, its rows; plain values as a map's elements.
-/
import Derived.Test.YtmcmdpbdipgahaaRM
import Derived.Maps.OwnSet
import Derived.Maps.Views
import Derived.Maps.AppendAt
import Derived.Maps.RangeWalk
namespace Go.Proofs.Ytmcmdpbdipgahaa
open Go.RowKit Go.Maps
set_option maxRecDepth 100000
/-- a row: where, how many, what -/
structure Rf where
  A : Option Addr
  n : Nat
  c : Nat
  ys : List Value
def rf0 : Rf := ⟨none, 0, 0, []⟩
/-- what a record holds beside its rows -/
structure Sc where
  a : Int
  b : Int
  c : Int
  made : Int
  bal : Int
  fwd : Int
  mat : Int
  cla : Int
  ce : Bool
  at' : Int
  rt : List Int
  pe : Bool
  c1 : Int
  c2 : Int
  c3 : Int
  ce1 : List Int
  ce2 : List Int
def h8 (l : List Int) : List Value := [.int .u8 (l.getD 0 0), .int .u8 (l.getD 1 0), .int .u8 (l.getD 2 0), .int .u8 (l.getD 3 0), .int .u8 (l.getD 4 0), .int .u8 (l.getD 5 0), .int .u8 (l.getD 6 0), .int .u8 (l.getD 7 0)]
/-- a record in memory -/
structure Sm where
  s : Sc
  K : Rf
  O : Rf
  G : Rf
  U : Rf
def sdV (x : Sm) : List Value :=
  .int .i64 x.s.a :: .int .i64 x.s.b :: .int .i64 x.s.c :: .slice x.K.A x.K.n x.K.c :: .int .i64 x.s.made :: .int .i64 x.s.bal :: .int .i64 x.s.fwd :: .int .i64 x.s.mat :: .int .i64 x.s.cla :: .bool x.s.ce :: .int .i64 x.s.at' ::
  .int .u8 (x.s.rt.getD 0 0) :: .int .u8 (x.s.rt.getD 1 0) :: .int .u8 (x.s.rt.getD 2 0) :: .int .u8 (x.s.rt.getD 3 0) :: .int .u8 (x.s.rt.getD 4 0) :: .int .u8 (x.s.rt.getD 5 0) :: .int .u8 (x.s.rt.getD 6 0) :: .int .u8 (x.s.rt.getD 7 0) ::
  .bool x.s.pe :: .int .i64 x.s.c1 :: .int .i64 x.s.c2 :: .int .i64 x.s.c3 ::
  .int .u8 (x.s.ce1.getD 0 0) :: .int .u8 (x.s.ce1.getD 1 0) :: .int .u8 (x.s.ce1.getD 2 0) :: .int .u8 (x.s.ce1.getD 3 0) :: .int .u8 (x.s.ce1.getD 4 0) :: .int .u8 (x.s.ce1.getD 5 0) :: .int .u8 (x.s.ce1.getD 6 0) :: .int .u8 (x.s.ce1.getD 7 0) ::
  .int .u8 (x.s.ce2.getD 0 0) :: .int .u8 (x.s.ce2.getD 1 0) :: .int .u8 (x.s.ce2.getD 2 0) :: .int .u8 (x.s.ce2.getD 3 0) :: .int .u8 (x.s.ce2.getD 4 0) :: .int .u8 (x.s.ce2.getD 5 0) :: .int .u8 (x.s.ce2.getD 6 0) :: .int .u8 (x.s.ce2.getD 7 0) ::
  .slice x.O.A x.O.n x.O.c :: .slice x.G.A x.G.n x.G.c :: .slice x.U.A x.U.n x.U.c :: []
theorem sd_len (x : Sm) : (sdV x).length = 42 := rfl
theorem sd_one (x : Sm) : ∀ v ∈ sdV x, v.oneCell' = true := by
  unfold sdV
  simp [Value.oneCell']
/-- what is in a record, wherever its rows lie -/
def Sm.con (x : Sm) : Sc × (Nat × List Value) × (Nat × List Value) × (Nat × List Value) × (Nat × List Value) := (x.s, (x.K.n, x.K.ys), (x.O.n, x.O.ys), (x.G.n, x.G.ys), (x.U.n, x.U.ys))
abbrev Con := Sc × (Nat × List Value) × (Nat × List Value) × (Nat × List Value) × (Nat × List Value)
/-- a row lies there, in none of the blocks that may be written -/
structure RfAt (w : World) (P : Nat → Prop) (sz : Nat) (r : Rf) : Prop where
  src : SrcG w sz r.A r.n r.ys
  cap : r.n ≤ r.c
  big : r.n ≤ 100
  pl : ∀ a, r.A = some a → a.spot = none ∧ a.block < w.heap.size ∧ ¬ P a.block
  nil : r.A = none → r.n = 0 ∧ r.c = 0
theorem RfAt.keep {w w' : World} {P P' : Nat → Prop} {sz : Nat} {r : Rf} (h : RfAt w P sz r) (hs : w.heap.size ≤ w'.heap.size) (hb : ∀ q, q < w.heap.size → ¬ P q → w'.heap[q]? = w.heap[q]?) (hp : ∀ q, q < w.heap.size → P' q → P q) : RfAt w' P' sz r := by
  obtain ⟨⟨s1, s2, s3⟩, h2, h3, h4, h5⟩ := h
  refine ⟨⟨s1, s2, ?_⟩, h2, h3, fun a ha => ?_, h5⟩
  · rcases s3 with s3 | ⟨b, o, e, hl, hr⟩
    · exact .inl s3
    · have := h4 _ e
      exact .inr ⟨b, o, e, by omega, range_keep1 hr (hb b hl this.2.2)⟩
  · have := h4 a ha
    exact ⟨this.1, by omega, fun hq => this.2.2 (hp _ this.2.1 hq)⟩
theorem RfAt.grow {w w' : World} {P : Nat → Prop} {sz : Nat} {r : Rf} (h : RfAt w P sz r) (hb : Below w.heap.size w w') : RfAt w' P sz r := h.keep hb.size (fun q hq _ => hb.block q hq) fun _ _ h => h
theorem rf0_at (w : World) (P : Nat → Prop) (sz : Nat) : RfAt w P sz rf0 := ⟨⟨by simp [rf0], fun u hu => (by cases hu), .inl rfl⟩, Nat.le_refl _, by decide, fun a h => (by cases h), fun _ => ⟨rfl, rfl⟩⟩
structure SdAt (w : World) (P : Nat → Prop) (x : Sm) : Prop where
  K : RfAt w P 8 x.K
  O : RfAt w P 9 x.O
  G : RfAt w P 282 x.G
  U : RfAt w P 1 x.U
theorem SdAt.keep {w w' : World} {P P' : Nat → Prop} {x : Sm} (h : SdAt w P x) (hs : w.heap.size ≤ w'.heap.size) (hb : ∀ q, q < w.heap.size → ¬ P q → w'.heap[q]? = w.heap[q]?) (hp : ∀ q, q < w.heap.size → P' q → P q) : SdAt w' P' x := ⟨h.K.keep hs hb hp, h.O.keep hs hb hp, h.G.keep hs hb hp, h.U.keep hs hb hp⟩
theorem SdAt.grow {w w' : World} {P : Nat → Prop} {x : Sm} (h : SdAt w P x) (hb : Below w.heap.size w w') : SdAt w' P x := ⟨h.K.grow hb, h.O.grow hb, h.G.grow hb, h.U.grow hb⟩
/- plain values -/
def plB : Value → Bool
  | .int _ _ => true
  | .bool _ => true
  | .slice none _ _ => true
  | .slice (some a) _ _ => a.spot.isNone
  | _ => false
def nD (n : Nat) : DataW Unit := .lit (.int .i64 n)
def vD : Value → DataW Unit
  | .int k x => .lit (.int k x)
  | .bool b => .lit (.bool b)
  | .slice none n c => .agg [nD n, nD c]
  | .slice (some a) n c => .agg [nD n, nD c, nD a.block, nD a.off]
  | _ => .nil
theorem nD_inj {a b : Nat} (h : nD a = nD b) : a = b := by
  unfold nD at h
  simp only [DataW.lit.injEq, Lit.int.injEq, true_and] at h
  omega
theorem pl_cases {v : Value} (h : plB v = true) : (∃ k x, v = .int k x) ∨ (∃ b, v = .bool b) ∨ (∃ n c, v = .slice none n c) ∨ ∃ b o n c, v = .slice (some ⟨b, o, none⟩) n c := by
  cases v with
  | int k x => exact .inl ⟨k, x, rfl⟩
  | bool b => exact .inr (.inl ⟨b, rfl⟩)
  | slice a n c =>
    cases a with
    | none => exact .inr (.inr (.inl ⟨n, c, rfl⟩))
    | some a =>
      obtain ⟨a1, a2, a3⟩ := a
      have h : a3.isNone = true := h
      rw [Option.isNone_iff_eq_none] at h
      subst h
      exact .inr (.inr (.inr ⟨a1, a2, n, c, rfl⟩))
  | _ => cases h
theorem vD_inj {u v : Value} (hu : plB u = true) (hv : plB v = true) (h : vD u = vD v) : u = v := by
  rcases pl_cases hu with ⟨k, x, rfl⟩ | ⟨b, rfl⟩ | ⟨n, c, rfl⟩ | ⟨b, o, n, c, rfl⟩ <;> rcases pl_cases hv with ⟨l, y, rfl⟩ | ⟨d, rfl⟩ | ⟨m, d, rfl⟩ | ⟨d, q, m, e, rfl⟩ <;> clear hu hv <;>
    simp only [vD, DataW.lit.injEq, Lit.int.injEq, Lit.bool.injEq, DataW.agg.injEq, List.cons.injEq, and_true, reduceCtorEq, and_false] at h
  · rw [h.1, h.2]
  · rw [h]
  · rw [nD_inj h.1, nD_inj h.2]
  · rw [nD_inj h.1, nD_inj h.2.1, nD_inj h.2.2.1, nD_inj h.2.2.2]
theorem vDs_inj : ∀ {xs ys : List Value}, xs.all plB = true → ys.all plB = true → xs.map vD = ys.map vD → xs = ys
  | [], [], _, _, _ => rfl
  | [], _ :: _, _, _, h => by simp at h
  | _ :: _, [], _, _, h => by simp at h
  | x :: xs, y :: ys, hx, hy, h => by
    simp only [List.all_cons, Bool.and_eq_true] at hx hy
    simp only [List.map_cons, List.cons.injEq] at h
    rw [vD_inj hx.1 hy.1 h.1, vDs_inj hx.2 hy.2 h.2]
def pD (xs : List Value) : DataW Unit := .agg (xs.map vD)
def plain (n : Nat) (xs : List Value) : Prop := xs.length = n ∧ xs.all plB = true
theorem pD_inj {n : Nat} {xs ys : List Value} (hx : plain n xs) (hy : plain n ys) (h : pD xs = pD ys) : xs = ys := vDs_inj hx.2 hy.2 (DataW.agg.inj h)
open Classical in
noncomputable def plR (n : Nat) (v : Value) : Option (DataW Unit × List MemPlace) := if h : ∃ xs : List Value, v = .agg xs.toArray ∧ plain n xs then some (pD h.choose, []) else none
theorem agg_inj {xs ys : List Value} (h : Value.agg xs.toArray = .agg ys.toArray) : xs = ys := by
  have := congrArg Array.toList (Value.agg.inj h)
  simpa using this
theorem plR_mk {n : Nat} {xs : List Value} (h : plain n xs) : plR n (.agg xs.toArray) = some (pD xs, []) := by
  have he : ∃ ys : List Value, (Value.agg xs.toArray) = .agg ys.toArray ∧ plain n ys := ⟨xs, rfl, h⟩
  unfold plR
  rw [dif_pos he]
  rw [← agg_inj he.choose_spec.1]
theorem plR_inv {n : Nat} {v : Value} {z : DataW Unit × List MemPlace} (h : plR n v = some z) : ∃ xs : List Value, v = .agg xs.toArray ∧ plain n xs ∧ z = (pD xs, []) := by
  unfold plR at h
  split at h
  · rename_i he
    exact ⟨he.choose, he.choose_spec.1, he.choose_spec.2, (Option.some.inj h).symm⟩
  · cases h
theorem rf_pl {w : World} {P : Nat → Prop} {sz : Nat} {r : Rf} (h : RfAt w P sz r) : plB (.slice r.A r.n r.c) = true := by
  cases e : r.A with
  | none => rfl
  | some a => simp [plB, (h.pl a e).1]
theorem plI (k : IntKind) (x : Int) : plB (.int k x) = true := rfl
theorem plBo (b : Bool) : plB (.bool b) = true := rfl
theorem sd_plain {w : World} {P : Nat → Prop} {x : Sm} (h : SdAt w P x) : plain 42 (sdV x) := by
  refine ⟨rfl, ?_⟩
  unfold sdV
  simp only [List.all_cons, List.all_nil, Bool.and_true, rf_pl h.K, rf_pl h.O, rf_pl h.G, rf_pl h.U, plI, plBo]
def sc0 : Sc := ⟨0, 0, 0, 0, 0, 0, 0, 0, false, 0, [], false, 0, 0, 0, [], []⟩
def sm0 : Sm := ⟨sc0, rf0, rf0, rf0, rf0⟩
theorem sm0_plain : plain 42 (sdV sm0) := ⟨rfl, rfl⟩
theorem z53 (w : World) : (zeroValue 53).run Try.prog w = .ok (.agg (sdV sm0).toArray) w := by kernel_rfl
end Go.Proofs.Ytmcmdpbdipgahaa
