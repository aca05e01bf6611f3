/-
  Points, coins: their cells; points as keys.
-/
import Derived.Test.YtdggnmlhgglccaaRows
import Derived.WalkKit
import Derived.WalkLawsBesides
import Derived.Lib.Hide
import Derived.OneCell
import Derived.Maps.OwnSet
import Derived.Maps.Views
import Derived.Maps.AppendAt
import Derived.DeepKeys4
import Derived.Deep.AppendLies
import Derived.Deep.RegionLaw
import Derived.Deep.RegionHeld3
import Derived.OwnWalk
import Derived.StillTailTactics
import Derived.BigQuiet
import Derived.BigRegion
import Derived.Deep.QuietTactic
import Derived.IntWalk
namespace Go.Proofs.Ytdggnmlhgglccaa
open Go.RowKit Go.Maps Go.WideMaps
set_option maxRecDepth 100000
def bvals (xs : List Int) : List Value := xs.map (Value.int .u8)
def Byt (xs : List Int) : Prop := ∀ x ∈ xs, 0 ≤ x ∧ x < 256
theorem byt_getD {xs : List Int} (h : Byt xs) (k : Nat) (hk : k < xs.length) : 0 ≤ xs.getD k 0 ∧ xs.getD k 0 < 256 := by
  have : xs.getD k 0 = xs[k] := by simp [List.getD, hk]
  rw [this]
  exact h _ (List.getElem_mem hk)
def zeros (n : Nat) : List Int := List.replicate n 0
abbrev Sch := List (Option Nat)
def cellV : Option Nat → Int → Value
  | none, x => .int .u8 x
  | some _, x => .int .i64 x
def vals (S : Sch) (r : List Int) : List Value := List.zipWith cellV S r
/-- it is a byte; a number's own type holds it -/
def okA : Option Nat → Int → Prop
  | none, x => 0 ≤ x ∧ x < 256
  | some _, x => -9223372036854775808 ≤ x ∧ x < 9223372036854775808
def okT (p : Option Nat → Int → Prop) : Sch → List Int → Prop
  | [], r => r = []
  | _ :: _, [] => False
  | a :: S, x :: r => p a x ∧ okT p S r
theorem okT_len {p : Option Nat → Int → Prop} : ∀ {S : Sch} {r : List Int}, okT p S r → r.length = S.length
  | [], _, h => by cases h; rfl
  | _ :: _, [], h => by cases h
  | _ :: S, _ :: r, h => by simp [okT_len h.2]
theorem okT_app {p : Option Nat → Int → Prop} : ∀ {S T : Sch} {r : List Int}, okT p (S ++ T) r ↔ okT p S (r.take S.length) ∧ okT p T (r.drop S.length)
  | [], T, r => by simp [okT]
  | a :: S, T, [] => by simp [okT]
  | a :: S, T, x :: r => by
    simp only [List.cons_append, okT, List.length_cons, List.take_succ_cons, List.drop_succ_cons, okT_app (S := S) (T := T) (r := r), and_assoc]
theorem vals_len {S : Sch} {r : List Int} (h : r.length = S.length) : (vals S r).length = S.length := by simp [vals, h]
theorem vals_one (S : Sch) (r : List Int) : ∀ v ∈ vals S r, v.oneCell' = true := by
  intro v hv
  unfold vals at hv
  induction S generalizing r with
  | nil => simp at hv
  | cons a S ih =>
    cases r with
    | nil => simp at hv
    | cons x r =>
      rw [List.zipWith_cons_cons] at hv
      rcases List.mem_cons.1 hv with rfl | h
      · cases a <;> rfl
      · exact ih r h
theorem vals_get {S : Sch} {r : List Int} {i : Nat} {a : Option Nat} (hS : S[i]? = some a) (hr : i < r.length) : (vals S r)[i]? = some (cellV a (r.getD i 0)) := by
  unfold vals
  rw [List.getElem?_zipWith, hS, List.getElem?_eq_getElem hr]
  simp [List.getD, hr]
theorem vals_app {S T : Sch} {r : List Int} (h : S.length ≤ r.length) : vals (S ++ T) r = vals S (r.take S.length) ++ vals T (r.drop S.length) := by
  unfold vals
  conv => lhs; rw [← List.take_append_drop S.length r]
  rw [List.zipWith_append (by simp [h])]
theorem vals_byt : ∀ (k : Nat) (r : List Int), r.length = k → vals (List.replicate k none) r = bvals r
  | 0, r, h => by rw [List.eq_nil_of_length_eq_zero h]; rfl
  | k + 1, x :: r, h => by
    have := vals_byt k r (by simpa using h)
    simp only [vals, List.replicate_succ, List.zipWith_cons_cons, bvals, List.map_cons] at *
    rw [this]; rfl
theorem okT_byt : ∀ (k : Nat) (r : List Int), okT okA (List.replicate k none) r ↔ r.length = k ∧ Byt r
  | 0, r => by
    simp only [List.replicate_zero, okT]
    constructor
    · rintro rfl; exact ⟨rfl, fun x hx => by cases hx⟩
    · rintro ⟨h, _⟩; exact List.eq_nil_of_length_eq_zero h
  | k + 1, [] => ⟨fun h => h.elim, fun h => by have := h.1; simp at this⟩
  | k + 1, x :: r => by
    simp only [List.replicate_succ, okT, okT_byt k r, okA, List.length_cons, Byt, List.mem_cons, forall_eq_or_imp]
    constructor
    · rintro ⟨a, b, c⟩; exact ⟨by omega, a, c⟩
    · rintro ⟨a, b, c⟩; exact ⟨b, by omega, c⟩
def cel (r : List Int) (i : Nat) : Int := r.getD i 0
/-- some of its cells -/
def seg (r : List Int) (i k : Nat) : List Int := (r.drop i).take k
/-- a row's record -/
def rcd (rs : List (List Int)) (j : Nat) : List Int := rs.getD j []
def hS : Sch := List.replicate 8 none
def ptS : Sch := hS ++ [some 1]
theorem vals_inj : ∀ {S : Sch} {a b : List Int}, a.length = S.length → b.length = S.length → vals S a = vals S b → a = b
  | [], [], [], _, _, _ => rfl
  | none :: S, x :: a, y :: b, ha, hb, h => by
    simp only [vals, List.zipWith_cons_cons, List.cons.injEq, cellV, Value.int.injEq, true_and] at h
    rw [h.1, vals_inj (by simpa using ha) (by simpa using hb) h.2]
  | some _ :: S, x :: a, y :: b, ha, hb, h => by
    simp only [vals, List.zipWith_cons_cons, List.cons.injEq, cellV, Value.int.injEq, true_and] at h
    rw [h.1, vals_inj (by simpa using ha) (by simpa using hb) h.2]
theorem laidOutK : laidOutB Try.prog = true := by kernel_rfl
theorem row61 : (38 : TypeId) < Try.prog.types.size := of_decide_eq_true (by kernel_rfl)
theorem wide61 : (match Try.prog.underlying 38 with | some (.array _ _) | some (.struct _) => true | _ => false) = true := by kernel_rfl
theorem law61 : KeyLaw Try.prog 38 := deep_law_laid laidOutK (m := 3) (by omega) row61 (by kernel_rfl) wide61
theorem keyed61 : Keyed Try.prog 38 := Keyed.of_law law61
theorem kt61 : Try.prog.keyType 38 = true := by kernel_rfl
theorem co61 : Try.prog.cellsOf 38 = 9 := by kernel_rfl
theorem co29 : Try.prog.cellsOf 36 = 8 := by kernel_rfl
theorem co5 : Try.prog.cellsOf 5 = 1 := by kernel_rfl
theorem co3 : Try.prog.cellsOf 3 = 1 := by kernel_rfl
theorem kl5 (d : Nat) (x : Int) (h : 0 ≤ x ∧ x < 256) : Try.prog.keyLits (d + 1) 5 [.int .u8 x] = some [.int .u8 x] := by
  have hu : Try.prog.underlying 5 = some (.int .u8) := by kernel_rfl
  have hw : (Lit.int .u8 x).wf = true := by
    show (decide (IntKind.u8.min ≤ x) && decide (x ≤ IntKind.u8.max)) = true
    rw [show IntKind.u8.min = 0 by decide, show IntKind.u8.max = 255 by decide]
    simp; omega
  rw [Program.keyLits]
  rotate_left 2
  · exact hu
  rw [if_pos ⟨rfl, hw⟩]
theorem kl3 (d : Nat) (x : Int) (h : -9223372036854775808 ≤ x ∧ x < 9223372036854775808) : Try.prog.keyLits (d + 1) 3 [.int .i64 x] = some [.int .i64 x] := by
  have hu : Try.prog.underlying 3 = some (.int .i64) := by kernel_rfl
  have hw : (Lit.int .i64 x).wf = true := by
    show (decide (IntKind.i64.min ≤ x) && decide (x ≤ IntKind.i64.max)) = true
    rw [show IntKind.i64.min = -9223372036854775808 by decide, show IntKind.i64.max = 9223372036854775807 by decide]
    simp; omega
  rw [Program.keyLits]
  rotate_left 2
  · exact hu
  rw [if_pos ⟨rfl, hw⟩]
theorem bv_len (x : List Int) : (bvals x).length = x.length := by simp [bvals]
theorem bv_at (x : List Int) (i : Nat) (h : i < x.length) : ((bvals x).drop (i * 1)).take 1 = [.int .u8 (x.getD i 0)] := by
  rw [Nat.mul_one, List.drop_eq_getElem_cons (by rw [bv_len]; exact h)]
  simp [bvals, List.getD, h]
theorem mapM_some {α β : Type} (f : α → Option β) (g : α → β) : ∀ (l : List α), (∀ x ∈ l, f x = some (g x)) → l.mapM f = some (l.map g)
  | [], _ => rfl
  | x :: l, h => by
    rw [List.mapM_cons, h x (by simp), mapM_some f g l fun y hy => h y (List.mem_cons_of_mem _ hy)]
    rfl
theorem kl29 (d : Nat) (x : List Int) (hl : x.length = 8) (hb : Byt x) : ∃ ls, Try.prog.keyLits (d + 2) 36 (bvals x) = some ls := by
  have hu : Try.prog.underlying 36 = some (.array 8 5) := Try.underlying36
  rw [Program.keyLits]
  case heq => exact hu
  rw [if_pos (by rw [bv_len, hl, co29]), mapM_some _ (fun i => [Lit.int .u8 (x.getD i 0)]) _ (fun i hi => by
    rw [List.mem_range] at hi
    rw [co5, bv_at x i (by omega)]
    exact kl5 d _ (byt_getD hb i (by omega)))]
  exact ⟨_, rfl⟩
theorem klpt (d : Nat) (p : List Int) (h : okT okA ptS p) : ∃ ls, Try.prog.keyLits (d + 3) 38 (vals ptS p) = some ls := by
  have hu := Try.underlying38
  have hl : p.length = 9 := okT_len h
  unfold ptS at h
  rw [okT_app] at h
  obtain ⟨h1, h2⟩ := h
  have hb : (p.take 8).length = 8 ∧ Byt (p.take 8) := (okT_byt 8 _).1 h1
  have e : vals ptS p = bvals (p.take 8) ++ [.int .i64 (cel p 8)] := by
    have hd : p.drop 8 = [cel p 8] := by
      rw [List.drop_eq_getElem_cons (by omega), List.drop_of_length_le (by omega)]
      simp [cel, List.getD, hl]
    unfold ptS
    rw [vals_app (by simp [hS, hl])]
    simp only [hS, List.length_replicate]
    rw [vals_byt 8 _ hb.1, hd]
    rfl
  have hc : okA (some 1) (cel p 8) := by
    have h3 := h2
    simp only [hS, List.length_replicate] at h3
    rw [show p.drop 8 = [cel p 8] by
      rw [List.drop_eq_getElem_cons (by omega), List.drop_of_length_le (by omega)]
      simp [cel, List.getD, hl]] at h3
    exact h3.1
  obtain ⟨l1, hl1⟩ := kl29 d (p.take 8) hb.1 hb.2
  have hl3 := kl3 (d + 1) (cel p 8) hc
  rw [e, Program.keyLits.eq_def]
  simp only [hu]
  have h8 : (bvals (p.take 8)).length = 8 := by rw [bv_len]; exact hb.1
  rw [if_pos ⟨by rw [List.length_append, h8, co61]; rfl, by kernel_rfl⟩]
  have t1 : ((bvals (p.take 8) ++ [Value.int .i64 (cel p 8)]).drop 0).take 8 = bvals (p.take 8) := by rw [List.drop_zero, List.take_left' h8]
  have t2 : ((bvals (p.take 8) ++ [Value.int .i64 (cel p 8)]).drop 8).take 1 = [.int .i64 (cel p 8)] := by rw [List.drop_left' h8]; rfl
  simp only [List.mapM_cons, List.mapM_nil, co29, co3, t1, t2, hl1, hl3]
  exact ⟨_, rfl⟩
theorem key_pt {p : List Int} (h : okT okA ptS p) : ∃ l, keyOf Try.prog 38 (.agg (vals ptS p).toArray) = some l := by
  obtain ⟨d, hd⟩ : ∃ d, Try.prog.types.size + 1 = d + 3 := ⟨Try.prog.types.size - 2, by have : 2 ≤ Try.prog.types.size := of_decide_eq_true (by kernel_rfl); omega⟩
  obtain ⟨ls, hls⟩ := klpt d p h
  have hu := Try.underlying38
  unfold keyOf
  rw [hu]
  simp only []
  have hf : (Value.agg (vals ptS p).toArray).formed Try.prog 38 = true := by
    have hl : (vals ptS p).toArray.size = 9 := by rw [List.size_toArray, vals_len (okT_len h)]; rfl
    simp only [Value.formed, hu, co61, hl]
    rfl
  rw [kt61, hf, hd]
  simp only [Bool.and_self, if_true]
  show ∃ l, (Try.prog.keyLits (d + 3) 38 (vals ptS p).toArray.toList).map (fun ls => Lit.string (keyBytes ls)) = some l
  rw [List.toList_toArray, hls]
  exact ⟨_, rfl⟩

/-! ### coins -/
def cnS : Sch := hS ++ [some 7, some 1]
structure Cn where
  r : List Int
  b : Bool
def Cn.ok (c : Cn) : Prop := okT okA cnS c.r
def ptV (p : List Int) : List Value := vals ptS p
def cnV (c : Cn) : List Value := vals cnS c.r ++ [.bool c.b]
def cn0 : Cn := ⟨zeros 10, false⟩
theorem cn0_ok : cn0.ok := by unfold Cn.ok cn0 cnS hS zeros; simp [okT, okA]
theorem cnV_len {c : Cn} (h : c.r.length = 10) : (cnV c).length = 11 := by unfold cnV; rw [List.length_append, vals_len (by rw [h]; rfl)]; rfl
theorem cnV_inj {c d : Cn} (hc : c.r.length = 10) (hd : d.r.length = 10) (h : cnV c = cnV d) : c = d := by
  unfold cnV at h
  have h2 := List.append_inj' h rfl
  have h3 := vals_inj (S := cnS) (by rw [hc]; rfl) (by rw [hd]; rfl) h2.1
  obtain ⟨r, b⟩ := c
  obtain ⟨s, e⟩ := d
  have h4 : b = e := by simpa using h2.2
  simp only at h3
  rw [h3, h4]
/-- how a coin reads -/
def cnD (c : Cn) : DataW Unit := .agg ((c.r.map fun a => .lit (.int .u8 a)) ++ [.lit (.bool c.b)])
theorem cnD_inj {c d : Cn} (h : cnD c = cnD d) : c = d := by
  unfold cnD at h
  have h1 := DataW.agg.inj h
  have h2 := List.append_inj' h1 rfl
  have h3 : ∀ (x y : List Int), (x.map fun a => (DataW.lit (.int .u8 a) : DataW Unit)) = (y.map fun a => (DataW.lit (.int .u8 a) : DataW Unit)) → x = y := by
    intro x
    induction x with
    | nil => intro y e; cases y with
      | nil => rfl
      | cons b y => simp at e
    | cons a x ih => intro y e; cases y with
      | nil => simp at e
      | cons b y =>
        simp only [List.map_cons, List.cons.injEq, DataW.lit.injEq, Lit.int.injEq, true_and] at e
        rw [e.1, ih y e.2]
  have h4 := h3 _ _ h2.1
  obtain ⟨r, b⟩ := c
  obtain ⟨s, e⟩ := d
  have h5 : b = e := by simpa using h2.2
  simp only at h4
  rw [h4, h5]
open Classical in
noncomputable def cnR (v : Value) : Option (DataW Unit × List MemPlace) := if h : ∃ c : Cn, v = .agg (cnV c).toArray ∧ c.r.length = 10 then some (cnD h.choose, []) else none
theorem cnR_mk {c : Cn} (h : c.r.length = 10) : cnR (.agg (cnV c).toArray) = some (cnD c, []) := by
  have he : ∃ d : Cn, (Value.agg (cnV c).toArray) = .agg (cnV d).toArray ∧ d.r.length = 10 := ⟨c, rfl, h⟩
  unfold cnR
  rw [dif_pos he]
  have hc := he.choose_spec
  have := congrArg Array.toList (Value.agg.inj hc.1)
  rw [List.toList_toArray, List.toList_toArray] at this
  rw [← cnV_inj h hc.2 this]
theorem cnR_inv {v : Value} {z : DataW Unit × List MemPlace} (h : cnR v = some z) : ∃ c : Cn, v = .agg (cnV c).toArray ∧ c.r.length = 10 ∧ z = (cnD c, []) := by
  unfold cnR at h
  split at h
  · rename_i he
    exact ⟨he.choose, he.choose_spec.1, he.choose_spec.2, (Option.some.inj h).symm⟩
  · cases h
end Go.Proofs.Ytdggnmlhgglccaa
