/-
  Joined: RM2, R4, R5.
-/
import Derived.Test.YtmcmdpbdipgahaaJA
import Derived.Deep.RegionHeld
import Derived.WalkSpells
/-
  A region that draws, whose last operation waits for all: the last one by itself.
-/
namespace Go.Proofs.Ytmcmdpbdipgahaa
open Go.RowKit
set_option maxRecDepth 100000
section
variable {P : Program} {ops : Array Oper} {md : Region.Mode} {S : World → Prop}
/-- what is asked behind the region, but for the ordinary end -/
def Qn (Q : Exit → Act → World → Prop) (R : Act → World → Prop) : Exit → Act → World → Prop := fun e a w => match e with
  | .normal => R a w
  | e => Q e a w
theorem upon_q {Q : Exit → Act → World → Prop} {R : Act → World → Prop} {o : Oper} {a : Act} {K : Act → World → Prop} {w : World} (h : o.wp P a w K (Qn Q R)) : o.wp P a w K Q := by
  unfold Oper.wp at *
  generalize (execOp a.eval o).run P w = r at *
  cases r with
  | ok n w' =>
    cases n with
    | enter f args =>
      refine Calls.mono h fun e w'' he => ?_
      cases e <;> exact he
    | _ => exact h
  | halt x w' =>
    cases x <;> exact h
theorem wpOp_q {Q : Exit → Act → World → Prop} {R : Act → World → Prop} {i : Nat} {a : Act} {K : Act → World → Prop} {w : World} (h : wpOp P ops (Qn Q R) i K a w) : wpOp P ops Q i K a w := by
  unfold wpOp at *
  split
  · rename_i h0; simp only [h0] at h; exact h
  · rename_i o h0
    simp only [h0] at h
    split
    · rename_i hw
      simp only [hw, if_true] at h
      exact h.imp upon_q fun h => ⟨h.1, h.2⟩
    · rename_i hw
      simp only [hw] at h
      exact h
theorem any_done {Q : Exit → Act → World → Prop} {listed : Array Bool} {a : Act} {w : World} (hr : Region.ready md ops listed = []) (h : Q .normal a w) : ∀ fuel, wpAny P md ops Q fuel listed a w
  | 0 => ⟨hr, h⟩
  | _ + 1 => ⟨fun _ => h, by rw [hr]; simp⟩
/-- the last operation, n, waits for all -/
structure Ends (md : Region.Mode) (ops : Array Oper) (n : Nat) (on : Oper) : Prop where
  at' : ops[n]? = some on
  size : ops.size = n + 1
  back : ∀ j oj, ops[j]? = some oj → ∀ e ∈ oj.after, Region.binds md e = true → e.on < j
  all : ∀ j, j < n → ∃ e ∈ on.after, Region.binds md e = true ∧ (e.on = j ∨ ∃ ok, ops[e.on]? = some ok ∧ ∃ f ∈ ok.after, Region.binds md f = true ∧ f.on = j)
def Clos (md : Region.Mode) (ops : Array Oper) (L : Array Bool) : Prop := ∀ k ok, ops[k]? = some ok → L.getD k false = true → ∀ e ∈ ok.after, Region.binds md e = true → L.getD e.on false = true
theorem gd {L : Array Bool} {j : Nat} (h : j < L.size) (d : Bool) : L.getD j d = L[j] := by simp [h]
theorem any_end {n : Nat} {on : Oper} (E : Ends md ops n on) {Q : Exit → Act → World → Prop} : ∀ (fuel : Nat) (L0 L1 : Array Bool) (a : Act) (w : World), L0.size = n + 1 → L1.size = n + 1 → (∀ j d, j < n → L1.getD j d = L0.getD j d) → L0.getD n true = false → L1.getD n true = true → Clos md ops L0 →
    wpAnyH P md ops (Qn Q fun a w => wpOp P ops Q n (fun a' w' => Q .normal a' w') a w) S fuel L1 a w → wpAny P md ops Q (fuel + 1) L0 a w := by
  intro fuel
  induction fuel with
  | zero => ?z
  | succ fuel ih => ?s
  all_goals
    intro L0 L1 a w s0 s1 he h0 h1 hc H
    have lt : ∀ {L : Array Bool} {j}, j ∈ Region.ready md ops L → j < n + 1 := fun {L j} hj => by
      obtain ⟨_, o, ho, _⟩ := mem_ready.1 hj
      have := (Array.getElem?_eq_some_iff.1 ho).1
      rwa [E.size] at this
    have ne : n ∉ Region.ready md ops L1 := fun h => by have := (mem_ready.1 h).1; rw [h1] at this; cases this
    have iff : ∀ {j}, j < n → (j ∈ Region.ready md ops L1 ↔ j ∈ Region.ready md ops L0) := fun {j} hj => by
      rw [mem_ready, mem_ready, he j true hj]
      refine and_congr_right fun _ => exists_congr fun o => and_congr_right fun ho => ?_
      refine forall_congr' fun e => forall_congr' fun hm => forall_congr' fun hb => ?_
      rw [he e.on false (by have := E.back j o ho e hm hb; omega)]
    have full : Region.ready md ops L1 = [] → ∀ j, j < n → L0.getD j false = true := fun hr j => by
      induction j using Nat.strongRecOn with
      | _ j ij =>
        intro hj
        cases hg : L0.getD j false with
        | true => rfl
        | false =>
          have hjo : j < ops.size := by rw [E.size]; omega
          have : j ∈ Region.ready md ops L1 := (iff hj).2 (mem_ready.2 ⟨by rw [gd (by omega)] at hg ⊢; exact hg, ops[j], Array.getElem?_eq_getElem hjo, fun e hm hb => by
            have := E.back j _ (Array.getElem?_eq_getElem hjo) e hm hb
            exact ij e.on this (by omega)⟩)
          rw [hr] at this; cases this
    have last : (∀ j, j < n → L0.getD j false = true) → n ∈ Region.ready md ops L0 := fun h => mem_ready.2 ⟨h0, on, E.at', fun e hm hb => h e.on (E.back n on E.at' e hm hb)⟩
    have whole : n ∈ Region.ready md ops L0 → ∀ j, j < n → L0.getD j false = true := fun h j hj => by
      obtain ⟨_, o, ho, hall⟩ := mem_ready.1 h
      rw [E.at'] at ho
      cases ho
      obtain ⟨e, hm, hb, h2⟩ := E.all j hj
      rcases h2 with rfl | ⟨ok, hok, f, fm, fb, rfl⟩
      · exact hall e hm hb
      · exact hc e.on ok hok (hall e hm hb) f fm fb
    have empty : (∀ j, j < n → L0.getD j false = true) → Region.ready md ops L1 = [] := fun h => by
      refine List.eq_nil_iff_forall_not_mem.2 fun j hj => ?_
      have hl := lt hj
      by_cases hjn : j = n
      · exact ne (hjn ▸ hj)
      · have hj2 : j < n := by omega
        have h3 := (mem_ready.1 hj).1
        have h4 := h j hj2
        rw [he j true hj2, gd (by omega)] at h3
        rw [gd (by omega), h3] at h4
        cases h4
    have done : (∀ j, j < n → L0.getD j false = true) → Region.ready md ops (L0.setIfInBounds n true) = [] := fun h => by
      refine List.eq_nil_iff_forall_not_mem.2 fun j hj => ?_
      have hl := lt hj
      have h3 := (mem_ready.1 hj).1
      by_cases hjn : j = n
      · subst hjn
        rw [gd (by rw [Array.size_setIfInBounds]; omega)] at h3
        simp at h3
      · have hj2 : j < n := by omega
        have h4 := h j hj2
        rw [getD_set_ne true (fun e => hjn e.symm), gd (by omega)] at h3
        rw [gd (by omega), h3] at h4
        cases h4
    have atEnd : n ∈ Region.ready md ops L0 → (Qn Q fun a w => wpOp P ops Q n (fun a' w' => Q .normal a' w') a w) Exit.normal a w → ∀ fuel, wpOp P ops Q n (wpAny P md ops Q fuel (L0.setIfInBounds n true)) a w := fun hn hq fuel =>
      wpOp_mono (fun a' w' h => any_done (done (whole hn)) h fuel) hq
    refine ⟨fun hr => ?_, fun i hi => ?_⟩
    · exfalso
      cases hr1 : Region.ready md ops L1 with
      | nil => have := last (full hr1); rw [hr] at this; cases this
      | cons j l =>
        have hj : j ∈ Region.ready md ops L1 := by rw [hr1]; simp
        have hjn : j < n := by
          have := lt hj
          have : j ≠ n := fun e => ne (e ▸ hj)
          omega
        have := (iff hjn).1 hj
        rw [hr] at this; cases this
    · by_cases hin : i = n
      · subst hin
        have hr1 := empty (whole hi)
        first
          | exact atEnd hi H.2 _
          | exact atEnd hi (H.1 hr1) _
      · have hin2 : i < n := by have := lt hi; omega
        have hi1 := (iff hin2).2 hi
        first
          | (have := H.1; rw [this] at hi1; cases hi1)
          | (refine wpOp_mono (fun a' w' h => ?_) (wpOp_q (H.2 i hi1))
             refine ih (L0.setIfInBounds i true) (L1.setIfInBounds i true) a' w' (by rw [Array.size_setIfInBounds]; exact s0) (by rw [Array.size_setIfInBounds]; exact s1) (fun j d hj => ?_) (by rw [getD_set_ne true hin]; exact h0) (by rw [getD_set_ne true hin]; exact h1) (fun k ok hk hl e hm hb => ?_) h.2
             · by_cases hij : i = j
               · subst hij
                 rw [gd (by rw [Array.size_setIfInBounds]; omega), gd (by rw [Array.size_setIfInBounds]; omega)]
                 simp
               · rw [getD_set_ne d hij, getD_set_ne d hij]
                 exact he j d hj
             · refine getD_set_true ?_
               by_cases hik : i = k
               · subst hik
                 obtain ⟨_, o, ho, hall⟩ := mem_ready.1 hi
                 rw [hk] at ho
                 cases ho
                 exact hall e hm hb
               · rw [getD_set_ne false hik] at hl
                 exact hc k ok hk hl e hm hb)
def endsB (md : Region.Mode) (ops : Array Oper) (n : Nat) : Bool :=
  ops.size == n + 1 && (List.range (n + 1)).all (fun j => match ops[j]? with
    | none => true
    | some oj => oj.after.toList.all fun e => !Region.binds md e || decide (e.on < j)) &&
  match ops[n]? with
  | none => false
  | some on => (List.range n).all fun j => on.after.toList.any fun e => Region.binds md e && (e.on == j || match ops[e.on]? with
    | none => false
    | some ok => ok.after.toList.any fun f => Region.binds md f && f.on == j)
theorem ends_of {n : Nat} (h : endsB md ops n = true) : ∃ on, Ends md ops n on := by
  unfold endsB at h
  rw [Bool.and_eq_true, Bool.and_eq_true] at h
  obtain ⟨⟨h1, h2⟩, h3⟩ := h
  have h1 : ops.size = n + 1 := by simpa using h1
  cases ho : ops[n]? with
  | none => rw [ho] at h3; cases h3
  | some on =>
    rw [ho] at h3
    refine ⟨on, ho, h1, fun j oj hj e hm hb => ?_, fun j hj => ?_⟩
    · have hjl : j < n + 1 := by rw [← h1]; exact (Array.getElem?_eq_some_iff.1 hj).1
      have := List.all_eq_true.1 h2 j (List.mem_range.2 hjl)
      rw [hj] at this
      have := List.all_eq_true.1 this e (by simpa using hm)
      simpa [hb] using this
    · have := List.all_eq_true.1 h3 j (List.mem_range.2 hj)
      obtain ⟨e, hm, h4⟩ := List.any_eq_true.1 this
      rw [Bool.and_eq_true, Bool.or_eq_true] at h4
      obtain ⟨hb, h4⟩ := h4
      refine ⟨e, by simpa using hm, hb, h4.imp (fun h => by simpa using h) fun h => ?_⟩
      cases hk : ops[e.on]? with
      | none => rw [hk] at h; cases h
      | some ok =>
        rw [hk] at h
        obtain ⟨f, fm, h5⟩ := List.any_eq_true.1 h
        rw [Bool.and_eq_true] at h5
        exact ⟨ok, rfl, f, by simpa using fm, h5.1, by simpa using h5.2⟩
/-- A region that draws, whose last operation waits for all: the others in whatever order, a condition held; then the last. -/
theorem wp_region_end {id : Nat} {Q : Exit → Act → World → Prop} {a : Act} {w : World} (n : Nat) (hm : P.follows .mixedOrders = true) (hB : endsB .any ops n = true) (hS : S w.drew)
    (h : S w.drew → wpAnyH P .any ops (Qn Q fun a w => wpOp P ops Q n (fun a' w' => Q .normal a' w') a w) S n ((Array.replicate (n + 1) false).setIfInBounds n true) a w.drew) : (Code.region id ops true).wp P Q a w := by
  obtain ⟨on, E⟩ := ends_of hB
  refine wp_region_any hm ?_
  rw [E.size]
  refine any_end E n _ _ a _ (by simp) (by simp) (fun j d hj => ?_) (by simp) (by simp) (fun k ok hk hl => ?_) (h hS)
  · rw [getD_set_ne d (by omega)]
  · by_cases hkn : k < n + 1
    · rw [gd (by simpa using hkn)] at hl
      simp at hl
    · rw [Array.getD_eq_getD_getElem?, Array.getElem?_eq_none (by simp; omega)] at hl
      cases hl
end
theorem wpOp_last {P : Program} {ops : Array Oper} {Q : Exit → Act → World → Prop} {n : Nat} {o : Oper} {a : Act} {K : Act → World → Prop} {w : World} (ho : ops[n]? = some o) (hw : Region.wanted o (yielded ops a.tmps) = true) (h : o.wp P a w K Q) : wpOp P ops Q n K a w := by
  unfold wpOp
  simp only [ho, hw, if_true]
  exact .inl h
theorem qn_last {P : Program} {ops : Array Oper} {Q : Exit → Act → World → Prop} {n : Nat} {o : Oper} {a : Act} {w : World} (ho : ops[n]? = some o) (hw : Region.wanted o (yielded ops a.tmps) = true) (h : o.wp P a w (fun a' w' => Q .normal a' w') Q) : Qn Q (fun a w => wpOp P ops Q n (fun a' w' => Q .normal a' w') a w) .normal a w :=
  wpOp_last (Q := Q) ho hw h
theorem own_le {w : World} {base b n sz : Nat} {t : TypeId} {v : Value} {xs : List Value} (h : w.ownsRow base t sz v n xs) (hb : b ≤ base) : w.ownsRow b t sz v n xs := by
  refine ⟨h.1, ?_⟩
  rcases h.2 with g | ⟨g, cap, cur, e1, h2, r⟩
  · exact .inl g
  · exact .inr ⟨g, cap, cur, e1, Nat.le_trans hb h2, r⟩
theorem step_app0 {sl t : TypeId} {z : Value} {sz by' : Nat} (hu : Try.prog.underlying sl = some (.slice t)) (hi : (Try.prog.info? t).map (fun i => (i.zero, i.size, i.bytes)) = some (some z, sz, by')) (hz : z.cells.size = sz) (h0 : 0 < sz) (hb : by' ≤ 1000) {w : World} {ops : Array Oper} {o : Oper} {a : Act} {K : Act → World → Prop} {Q : Exit → Act → World → Prop} {E : Prop} (hgd : o.guard = none) (s y : Operand)
    (ho : o.op = .call { callee := .builtin .append, args := #[s, y], argTypes := #[sl, sl] }) (base m c : Nat) (ys : List Value) (B : Option Addr) (hv : a.eval s = .slice none 0 0) (hx : a.eval y = .slice B m c) (hs : SrcG w sz B m ys) (hm : m ≤ 100000) (hbase : base ≤ w.heap.size)
    (h : ∀ A c' w', w'.ownsRow base t sz (.slice A m c') m ys → Below base w w' → K (a.put o.dst (.slice A m c')) w') : if Region.wanted o (yielded ops a.tmps) = true then Oper.wp Try.prog o a w K Q else E :=
  step_appG hu hi hz h0 hb hgd s y ho base 0 m c (.slice none 0 0) [] ys B hv hx (World.ownsRow_nil w base t sz) hs (by omega) hm hbase fun A c' w' h1 h2 => by
    rw [Nat.zero_add, List.nil_append] at h1
    rw [Nat.zero_add]
    exact h A c' w' h1 h2
theorem own_cells {w : World} {base n sz : Nat} {t : TypeId} {v : Value} {xs : List Value} (h : w.ownsRow base t sz v n xs) {g : Nat} (hg : v.ownBlock = some g) : ∃ cur, w.heap[g]? = some (.cells cur t (0, 0)) := by
  rcases h.2 with ⟨e, _⟩ | ⟨g', c, cur, e1, _, h3, _⟩
  · rw [e] at hg; cases hg
  · rw [e1] at hg
    cases hg
    exact ⟨cur, h3⟩
theorem row_keepO {w w' : World} {base n sz : Nat} {t : TypeId} {v : Value} {xs : List Value} (h : w.ownsRow base t sz v n xs) (hb : ∀ g, v.ownBlock = some g → w'.heap[g]? = w.heap[g]?) : w'.ownsRow base t sz v n xs := by
  refine ⟨h.1, ?_⟩
  rcases h.2 with g | ⟨g, cap, cur, e1, r1, r3, r4⟩
  · exact .inl g
  · exact .inr ⟨g, cap, cur, e1, r1, by rw [hb g (by rw [e1]; rfl)]; exact r3, r4⟩
theorem own_ne {w : World} {base n sz B : Nat} {t T : TypeId} {v : Value} {xs cs : List Value} (h : w.ownsRow base t sz v n xs) (hb : BL w B cs T) (ht : t ≠ T) {g : Nat} (hg : v.ownBlock = some g) : g ≠ B := fun e => by
  obtain ⟨cur, h1⟩ := own_cells h hg
  rw [e, show w.heap[B]? = _ from hb] at h1
  exact ht (Obj.cells.inj (Option.some.inj h1)).2.1.symm
theorem step_bs1 {ops : Array Oper} {o : Oper} {a : Act} {w : World} {K : Act → World → Prop} {Q : Exit → Act → World → Prop} {E : Prop} (hw : Region.wanted o (yielded ops a.tmps) = true) {t e n b : Nat} {z : Value} (x : Operand) (cs : List Value) (ho : o.op = .buildSlice t 1 #[(0, x)]) (hx : a.eval x = .agg cs.toArray)
    (hu : Try.prog.underlying t = some (.slice e)) (hi : (Try.prog.info? e).map (fun i => (i.zero, i.size, i.bytes)) = some (some z, n, b)) (hl : cs.length = n) (h0 : 0 < n) (hm : n ≤ 1000)
    (hK : K (a.put o.dst (.slice (some ⟨w.heap.size, 0, none⟩) 1 1)) (w.alloc (.cells cs.toArray e))) : if Region.wanted o (yielded ops a.tmps) = true then Oper.wp Try.prog o a w K Q else E := by
  rw [if_pos hw]
  unfold Oper.wp execOp
  simp only [ho, List.map_toArray, List.map_cons, List.map_nil, hx, Sem.run_bind, run_bs1 hu hi hl h0 hm, Result.andThen_ok, Sem.run_pure]
  exact hK
end Go.Proofs.Ytmcmdpbdipgahaa

/-
  The registry in memory; its small functions; put.
-/
namespace Go.Proofs.Ytmcmdpbdipgahaa
open Go.RowKit Go.Maps
set_option maxRecDepth 100000
def fnS (xs : List Sm) (k : Int) : Option (List Value) := if 0 ≤ k ∧ k < xs.length then some (sdV (xs.getD k.toNat sm0)) else none
def mapOkV (w : World) (xs : List Sm) : Option Nat → Prop
  | none => xs = []
  | some b => MapV w b xs.length (fnS xs)
/-- what may be written -/
def isP (S : Nat) (m : Option Nat) (q : Nat) : Prop := q = S ∨ m = some q
structure RegM (w : World) (S : Nat) (m : Option Nat) (xs : List Sm) : Prop where
  blk : BL w S [.map m] 76
  map : mapOkV w xs m
  rows : ∀ x ∈ xs, SdAt w (isP S m) x
theorem RegM.lt {w : World} {S : Nat} {m : Option Nat} {xs : List Sm} (h : RegM w S m xs) : ∀ q, isP S m q → q < w.heap.size := by
  rintro q (rfl | rfl)
  · exact bl_lt h.blk
  · exact MapV.lt h.map
theorem mapOkV.keep {w w' : World} {xs : List Sm} {m : Option Nat} (h : mapOkV w xs m) (hb : ∀ b, m = some b → w'.heap[b]? = w.heap[b]?) : mapOkV w' xs m := by
  cases m with
  | none => exact h
  | some b => exact MapV.keep h (hb b rfl)
theorem RegM.keep {w w' : World} {S : Nat} {m : Option Nat} {xs : List Sm} {P : Nat → Prop} (h : RegM w S m xs) (hf : Fr w w' P) (hp : ∀ q, isP S m q → ¬ P q) (hr : ∀ x ∈ xs, SdAt w (fun q => isP S m q ∨ P q) x) : RegM w' S m xs :=
  ⟨bl_keep h.blk (hf.block S (h.lt S (.inl rfl)) (hp S (.inl rfl))), h.map.keep fun b e => hf.block b (h.lt b (.inr e)) (hp b (.inr e)), fun x hx => (hr x hx).keep hf.size (fun q hq hn => hf.block q hq fun hp => hn (.inr hp)) fun _ _ h => .inl h⟩
theorem RegM.grow {w w' : World} {S : Nat} {m : Option Nat} {xs : List Sm} (h : RegM w S m xs) (hb : Below w.heap.size w w') : RegM w' S m xs :=
  ⟨bl_keep h.blk (hb.block S (h.lt S (.inl rfl))), h.map.keep fun b e => hb.block b (h.lt b (.inr e)), fun x hx => (h.rows x hx).grow hb⟩
theorem RegM.c0 {w : World} {S : Nat} {m : Option Nat} {xs : List Sm} (h : RegM w S m xs) : w.cell? ⟨S, 0, none⟩ = some (.map m) := by
  have := range_of h.blk 0 _ rfl
  rwa [Nat.zero_add] at this
theorem map_neV {w : World} {b n q : Nat} {F : Int → Option (List Value)} {cs : List Value} {T : TypeId} (h : MapV w b n F) (g : BL w q cs T) : q ≠ b := by
  rintro rfl
  obtain ⟨D, ⟨es, clock, h1, _⟩, _⟩ := h
  unfold BL at g
  rw [h1] at g
  cases g
/-- x is laid at a place, or behind all -/
def putS {α : Type} (xs : List α) (i : Nat) (x : α) : List α := if i < xs.length then xs.set i x else xs ++ [x]
theorem putS_map {α β : Type} (f : α → β) (xs : List α) (i : Nat) (x : α) : (putS xs i x).map f = putS (xs.map f) i (f x) := by
  unfold putS
  rw [List.length_map]
  split
  · rw [List.map_set]
  · simp
theorem putS_len {α : Type} (xs : List α) (i : Nat) (x : α) : (putS xs i x).length = if i < xs.length then xs.length else xs.length + 1 := by
  unfold putS
  split <;> simp
theorem putS_mem {α : Type} {xs : List α} {i : Nat} {x y : α} (h : y ∈ putS xs i x) : y ∈ xs ∨ y = x := by
  unfold putS at h
  split at h
  · exact List.mem_or_eq_of_mem_set h
  · simpa using h
theorem putS_getD {α : Type} (xs : List α) (i j : Nat) (x d : α) (hi : i ≤ xs.length) : (putS xs i x).getD j d = if j = i then x else xs.getD j d := by
  unfold putS
  by_cases h : i < xs.length
  · rw [if_pos h]
    by_cases e : j = i
    · subst e
      rw [if_pos rfl]
      simp [List.getD, h]
    · rw [if_neg e]
      simp [List.getD, Ne.symm e]
  · rw [if_neg h]
    have : i = xs.length := by omega
    subst this
    by_cases e : j = xs.length
    · subst e
      rw [if_pos rfl]
      simp [List.getD]
    · rw [if_neg e]
      by_cases h2 : j < xs.length
      · simp [List.getD, List.getElem?_append_left h2]
      · simp [List.getD, List.getElem?_append_right (show xs.length ≤ j by omega), List.getElem?_eq_none (show xs.length ≤ j by omega), show j - xs.length ≠ 0 by omega]
theorem fn_put (xs : List Sm) (i : Nat) (x : Sm) (hi : i ≤ xs.length) : updV (fnS xs) (i : Int) (sdV x) = fnS (putS xs i x) := by
  funext k
  unfold updV fnS
  rw [putS_len]
  by_cases e : k = (i : Int)
  · subst e
    rw [if_pos rfl, if_pos (by split <;> omega), Int.toNat_natCast, putS_getD _ _ _ _ _ hi, if_pos rfl]
  · rw [if_neg e]
    by_cases h : 0 ≤ k ∧ k < xs.length
    · rw [if_pos h, if_pos (by split <;> omega), putS_getD _ _ _ _ _ hi, if_neg (by omega)]
    · rw [if_neg h, if_neg (by split <;> omega)]
theorem fn_some (xs : List Sm) (i : Nat) : (fnS xs (i : Int)).isSome = decide (i < xs.length) := by
  unfold fnS
  by_cases h : i < xs.length
  · rw [if_pos (by omega), decide_eq_true h]; rfl
  · rw [if_neg (by omega), decide_eq_false h]; rfl
theorem rWithin (n lo hi : Int) (w : World) : Calls Try.prog 39 #[.int .i64 n, .int .i64 lo, .int .i64 hi] w fun e w' => e = .returned (.bool (decide (lo ≤ n) && decide (n ≤ hi))) ∧ w = w' := by
  obtain ⟨c1, h1⟩ : ∃ c, decide (lo ≤ n) = c := ⟨_, rfl⟩
  obtain ⟨c2, h2⟩ : ∃ c, decide (n ≤ hi) = c := ⟨_, rfl⟩
  rw [h1, h2]
  cases c1 <;> cases c2 <;>
  · go_enter Try.func39, Try.ntmps39
    go_wp2
    go_ret
    exact ⟨rfl, rfl⟩
theorem rMayM (n : Int) (w : World) : Calls Try.prog 36 #[.int .i64 n] w fun e w' => e = .returned (.bool (decide (0 ≤ n) && decide (n ≤ 1125899906842624))) ∧ w = w' := by
  by_cases h0 : 0 ≤ n <;> by_cases h1 : n ≤ 1125899906842624 <;>
  · simp only [h0, h1, decide_true, decide_false, Bool.and_true, Bool.and_false]
    go_enter Try.func36, Try.ntmps36
    go_wp2
    go_ret
    exact ⟨rfl, rfl⟩
theorem rRoom (a b : Int) (w : World) (hb : 1 ≤ b ∧ b ≤ 1125899906842624) : Calls Try.prog 37 #[.int .i64 a, .int .i64 b] w fun e w' => e = .returned (.bool (decide (a ≤ 1125899906842624 - b))) ∧ w = w' := by
  have hw : wrap64 (1125899906842624 - b) = 1125899906842624 - b := by unfold wrap64; omega
  obtain ⟨c, hc⟩ : ∃ c, 1125899906842624 - b = c := ⟨_, rfl⟩
  rw [hc] at hw ⊢
  go_enter Try.func37, Try.ntmps37
  go_wp2
  go_ret
  exact ⟨rfl, rfl⟩
theorem rNew (w : World) : Calls Try.prog 10 #[] w fun e w' => e = .returned (.pointer (some ⟨w.heap.size, 0, none⟩)) ∧ RegM w' w.heap.size none [] ∧ Below w.heap.size w w' := by
  go_enter Try.func10, Try.ntmps10
  go_wp2
  go_ret
  exact ⟨rfl, ⟨heap_alloc_last w _, rfl, fun x hx => by cases hx⟩, (Below.refl _ w).alloc (Nat.le_refl _) _⟩
theorem rLen (S : Nat) (m : Option Nat) (xs : List Sm) (w : World) (h : RegM w S m xs) : Calls Try.prog 28 #[.pointer (some ⟨S, 0, none⟩)] w fun e w' => e = .returned (.int .i64 xs.length) ∧ w = w' := by
  have c0 := h.c0
  have hm := h.map
  cases m with
  | none =>
    have hm : xs = [] := hm
    subst hm
    have ln := fun ty => len_nilV w ty
    clear h
    go_enter Try.func28, Try.ntmps28
    go_wp2
    go_ret
    exact ⟨rfl, rfl⟩
  | some b =>
    have ln := fun ty => MapV.len hm ty
    clear h hm
    obtain ⟨n, hn⟩ : ∃ n, xs.length = n := ⟨_, rfl⟩
    rw [hn] at ln ⊢
    go_enter Try.func28, Try.ntmps28
    go_wp2
    go_ret
    exact ⟨rfl, rfl⟩
end Go.Proofs.Ytmcmdpbdipgahaa

/-
  put: a record is laid.
-/
namespace Go.Proofs.Ytmcmdpbdipgahaa
open Go.RowKit Go.Maps
set_option maxRecDepth 100000
theorem wp_mputV {w : World} {o : Oper} {a : Act} {K : Act → World → Prop} {Q : Exit → Act → World → Prop} (m x v : Operand) (hop : o.op = Op.mapUpdate 74 m x v)
    (b n : Nat) (F : Int → Option (List Value)) (k : Int) (y : List Value) (hm : a.eval m = .map (some b)) (hx : a.eval x = .int .i64 k) (hv : a.eval v = .agg y.toArray) (h : MapV w b n F) (hn : n < maxLen) (hk : wfI k) (hy : plain 42 y)
    (hK : ∀ w', MapV w' b (if (F k).isSome then n else n + 1) (updV F k y) → w.mapTurned w' b → K (a.put o.dst undef) w') : Oper.wp Try.prog o a w K Q := by
  obtain ⟨w', hrun, r1, r2⟩ := h.put hn hk hy
  unfold Oper.wp
  simp [execOp, hop, hm, hx, hv, hrun, Result.andThen]
  exact hK w' r1 r2
/-- the registry behind a put -/
theorem put_doneV {S b : Nat} {xs : List Sm} {i : Nat} {x : Sm} {w w1 w2 : World} (h : RegM w S (some b) xs) (hi : i ≤ xs.length) (hb : Below w.heap.size w w1) (hx : SdAt w1 (fun q => q < w.heap.size) x) (hm : MapV w2 b (if (fnS xs (i : Int)).isSome then xs.length else xs.length + 1) (updV (fnS xs) (i : Int) (sdV x))) (ht : w1.mapTurned w2 b) :
    RegM w2 S (some b) (putS xs i x) ∧ Fr w w2 (isP S (some b)) := by
  have t := turned_fr ht
  have hlt := h.lt
  have hSb : S ≠ b := map_neV h.map h.blk
  have f : Fr w w2 (isP S (some b)) := ⟨t.1.trans hb.os, t.2.1.trans hb.tape, t.2.2.1.trans hb.output, by rw [t.2.2.2.1]; exact hb.size, fun q hq hn => (t.2.2.2.2 q fun e => hn (.inr (by rw [e]))).trans (hb.block q hq)⟩
  refine ⟨⟨?_, ?_, fun y hy => ?_⟩, f⟩
  · exact bl_keep h.blk ((t.2.2.2.2 S hSb).trans (hb.block S (hlt S (.inl rfl))))
  · show MapV w2 b (putS xs i x).length (fnS (putS xs i x))
    rw [putS_len, ← fn_put xs i x hi]
    rw [fn_some] at hm
    by_cases h2 : i < xs.length
    · rw [if_pos h2]
      rw [if_pos (by simpa using h2)] at hm
      exact hm
    · rw [if_neg h2]
      rw [if_neg (by simpa using h2)] at hm
      exact hm
  · rcases putS_mem hy with hy | rfl
    · exact (h.rows y hy).keep f.size (fun q hq hn => f.block q hq hn) fun _ _ h => h
    · exact hx.keep (by rw [t.2.2.2.1]; exact Nat.le_refl _) (fun q _ hn => t.2.2.2.2 q fun e => hn (by rw [e]; exact hlt b (.inr rfl))) fun q _ hq => hlt q hq
attribute [local irreducible] sdV MapV z0 fnS
set_option maxHeartbeats 4000000 in
theorem kPut (S : Nat) (m : Option Nat) (xs : List Sm) (i : Nat) (x : Sm) (w : World) (h : RegM w S m xs) (hi : i ≤ xs.length) (hn : xs.length ≤ 100) (hx : SdAt w (isP S m) x) :
    Calls Try.prog 34 #[.pointer (some ⟨S, 0, none⟩), .int .i64 i, .agg (sdV x).toArray] w fun e w' => e = .returned (.tuple #[]) ∧ ∃ m' x', x'.con = x.con ∧ RegM w' S m' (putS xs i x') ∧ (∀ b, m' = some b → m = some b ∨ w.heap.size ≤ b) ∧ Fr w w' (isP S m) := by
  obtain ⟨N, hN⟩ : ∃ N, w.heap.size = N := ⟨_, rfl⟩
  have HN := Lib.hid hN
  obtain ⟨v, hv⟩ : ∃ v, w.alloc (Obj.cells (sdV x).toArray 53) = v := ⟨_, rfl⟩
  have RX : Hid (BL v N (sdV x) 53) := Lib.hid (by subst hv hN; exact heap_alloc_last w _)
  have BV : Hid (Below N w v) := Lib.hid (by subst hv hN; exact (Below.refl _ w).alloc (Nat.le_refl _) _)
  have VS : Hid (v.heap.size = N + 1) := Lib.hid (by subst hv hN; show _ = _; rw [World.size_alloc])
  have HV : Hid (RegM v S m xs) := Lib.hid (h.grow (by rw [hN]; exact BV.out))
  have HX : Hid (SdAt v (isP S m) x) := Lib.hid (hx.grow (by rw [hN]; exact BV.out))
  have LX : Hid ((sdV x).length = 42) := Lib.hid (sd_len x)
  have HI := Lib.hid hi
  have HL := Lib.hid hn
  have SN : Hid (∀ q, isP S m q → q < N) := Lib.hid fun q hq => by rw [← hN]; exact h.lt q hq
  have qT : ∀ (w : World) (r : Option Nat), (binOp .eql 74 (.map r) (.map none)).run Try.prog w = .ok (.bool r.isNone) w := fun w r => run_eql_map_nil w _ _ _ r Try.underlying74
  have c0 : v.cell? ⟨S, 0, none⟩ = some (.map m) := HV.out.c0
  have WI : Hid (wfI (i : Int)) := Lib.hid (by unfold wfI; omega)
  have ML : Hid (xs.length < maxLen) := Lib.hid (by unfold maxLen; omega)
  clear h hi hn hx
  cases m with
  | none =>
    have hxs : xs = [] := HV.out.map
    obtain ⟨b, hb⟩ : ∃ b, v.heap.size = b := ⟨_, rfl⟩
    have HB := Lib.hid hb
    have mk := fun w => run_makeMap (P := Try.prog) 74 w
    have KA : Hid (∀ q, q < b → (v.alloc (.map #[] 0)).heap[q]? = v.heap[q]?) := Lib.hid fun q hq => Below.heap_alloc v _ q (by rw [HB.out]; exact hq)
    have SB : Hid (S < b) := Lib.hid (by rw [← hb]; exact HV.out.lt S (.inl rfl))
    have cA : (v.alloc (.map #[] 0)).cell? ⟨S, 0, none⟩ = some (.map none) := (World.cell?_of_block (w := v) (a := ⟨S, 0, none⟩) (KA.out S SB.out)).trans HV.out.c0
    have fA : (v.alloc (.map #[] 0)).frozen? ⟨S, 0, none⟩ = false := bl_free (bl_keep HV.out.blk (KA.out S SB.out)) 0
    have FV : Hid (Fr v ((v.alloc (.map #[] 0)).setCell ⟨S, 0, none⟩ (.map (some b))) (isP S none)) := Lib.hid
      ⟨rfl, rfl, rfl, by simp, fun q hq hn => (heap_set1 _ _ _ (show q ≠ S from fun e => hn (.inl e))).trans (KA.out q (by rw [HB.out] at hq; exact hq))⟩
    have HW : Hid (RegM ((v.alloc (.map #[] 0)).setCell ⟨S, 0, none⟩ (.map (some b))) S (some b) xs) := Lib.hid (by
      refine ⟨bl_set (bl_keep HV.out.blk (KA.out S SB.out)) 0 (.map (some b)), ?_, fun y hy => by rw [hxs] at hy; cases hy⟩
      rw [hxs]
      have h1 := MapV_made v
      rw [hb] at h1
      have e : (fun _ => none : Int → Option (List Value)) = fnS [] := by
        funext k
        unfold fnS
        rw [if_neg (by simp)]
      rw [e] at h1
      exact h1.keep (heap_set1 _ _ _ (by have := SB.out; omega)))
    have RX2 : Hid (BL ((v.alloc (.map #[] 0)).setCell ⟨S, 0, none⟩ (.map (some b))) N (sdV x) 53) := Lib.hid (bl_keep RX.out (FV.out.block N (bl_lt RX.out) fun hp => by have := SN.out N hp; omega))
    obtain ⟨u, hu⟩ : ∃ u, (v.alloc (.map #[] 0)).setCell ⟨S, 0, none⟩ (.map (some b)) = u := ⟨_, rfl⟩
    go_enter Try.func34, Try.ntmps34
    have UZ : Hid (b < u.heap.size) := Lib.hid (by rw [← hu]; simp; omega)
    rw [hu] at FV HW RX2
    have HX2 : Hid (SdAt u (isP S none) x) := Lib.hid (HX.out.keep FV.out.size (fun q hq hn => FV.out.block q hq hn) fun q _ h => h)
    go_upto_region 3 with (fail)
    (try rw [hv]); (try rw [hu])
    clear hu mk cA fA qT c0
    have C0 : ∀ w', Below u.heap.size u w' → w'.cell? ⟨S, 0, none⟩ = some (.map (some b)) := fun w' hb => (HW.out.grow hb).c0
    refine wp_region_end 7 (S := fun w' => Below u.heap.size u w') (by kernel_rfl) (by kernel_rfl) (Below.refl _ u).drew (fun hHeld => ?_)
    refine wpAnyH_take (i := 0) (v := ?_) rfl (by kernel_rfl) (by kernel_rfl) (by kernel_rfl) (fun _ _ _ h => h) (Or.inl ⟨by rfl, ?_⟩) (by assumption) ?_
    rotate_left
    · (intro w hSw; (try dsimp only at hSw); go_simp; try with_reducible rfl)
    simp only [Act.put, List.getElem_toArray, List.getElem_cons_zero, List.setIfInBounds_toArray, List.set_cons_zero, List.set_cons_succ]
    refine wpAnyH_take (i := 1) (v := ?_) rfl (by kernel_rfl) (by kernel_rfl) (by kernel_rfl) (fun _ _ _ h => h) (Or.inl ⟨by rfl, ?_⟩) (by assumption) ?_
    rotate_left
    · (intro w hSw; (try dsimp only at hSw); go_simp; try with_reducible rfl)
    simp only [Act.put, List.getElem_toArray, List.getElem_cons_succ, List.getElem_cons_zero, List.setIfInBounds_toArray, List.set_cons_zero, List.set_cons_succ]
    refine wpAnyH_take (i := 2) (v := ?_) rfl (by kernel_rfl) (by kernel_rfl) (by kernel_rfl) (fun _ _ _ h => h) (Or.inl ⟨by rfl, ?_⟩) (by assumption) ?_
    rotate_left
    · (intro w hSw; (try dsimp only at hSw); go_simp; try with_reducible rfl)
    simp only [Act.put, List.getElem_toArray, List.getElem_cons_succ, List.getElem_cons_zero, List.setIfInBounds_toArray, List.set_cons_zero, List.set_cons_succ]
    refine wpAnyH_take (i := 3) (v := ?_) rfl (by kernel_rfl) (by kernel_rfl) (by kernel_rfl) (fun _ _ _ h => h) (Or.inl ⟨by rfl, ?_⟩) (by assumption) ?_
    rotate_left
    · (intro w hSw; have z := C0 w hSw; go_simp; try with_reducible rfl)
    simp only [Act.put, List.getElem_toArray, List.getElem_cons_succ, List.getElem_cons_zero, List.setIfInBounds_toArray, List.set_cons_zero, List.set_cons_succ]
    refine wpAnyH_take (i := 4) (v := ?_) rfl (by kernel_rfl) (by kernel_rfl) (by kernel_rfl) (fun _ _ _ h => h) (Or.inl ⟨by rfl, ?_⟩) (by assumption) ?_
    rotate_left
    · (intro w hSw; (try dsimp only at hSw); go_simp; try with_reducible rfl)
    simp only [Act.put, List.getElem_toArray, List.getElem_cons_succ, List.getElem_cons_zero, List.setIfInBounds_toArray, List.set_cons_zero, List.set_cons_succ]
    refine wpAnyH_take (i := 5) rfl (by kernel_rfl) (by kernel_rfl) (by kernel_rfl) (fun _ _ _ h => h) (yieldsIf_load_mid (by rfl) 53 (.tmp 5) rfl N (0) rfl (sdV x) _ (fun w h => range_keep1 (range_of RX2.out) (h.block N (bl_lt RX2.out))) Try.underlying53 rfl (szL sz53 LX.out)) (by assumption) ?_
    simp only [Act.put, List.getElem_toArray, List.getElem_cons_succ, List.getElem_cons_zero, List.setIfInBounds_toArray, List.set_cons_zero, List.set_cons_succ]
    refine wpAnyH_ready (rs := [6]) (by kernel_rfl) (by simp) ?_
    refine AllReadyH.cons rfl (fun K hK => ?_) AllReadyH.nil
    go_simp
    go_at_call 38
    refine (kOwn _ x _ (HX2.out.grow (Below.refl _ _).drew)).mono ?_
    rintro e w1 ⟨x', rfl, o1, o2, o3⟩
    have O1 := Lib.hid o1
    have O2 := Lib.hid o2
    have O3 : Hid (Below u.heap.size u w1) := Lib.hid ((Below.refl _ u).drew.trans (o3.mono (Nat.le_refl _)))
    clear o1 o2 o3
    (try go_wp2_with fail)
    refine hK.out _ _ O3.out (fun hHeld => ?_)
    clear hK K
    clear hHeld
    refine wpAnyH_done (by kernel_rfl) ?_ _
    refine qn_last rfl (by rfl) ?_
    have hm1 : MapV w1 b xs.length (fnS xs) := (HW.out.grow O3.out).map
    refine wp_mputV (.tmp 18) (.tmp 19) (.tmp 21) rfl b xs.length (fnS xs) (i : Int) (sdV x') rfl rfl rfl hm1 ML.out WI.out (sd_plain O2.out) ?_
    intro w2 hm2 ht2
    obtain ⟨d1, d2⟩ := put_doneV HW.out HI.out O3.out O2.out hm2 ht2
    have D1 := Lib.hid d1
    have D2 := Lib.hid d2
    clear d1 d2 hm1 hm2 ht2
    go_wp2
    refine bodyPost_end (v := .tuple #[]) (by simp [results, Try.results34, go_sem]) rfl ⟨rfl, some b, x', O1.out, D1.out, fun b' e => .inr (by cases e; have := VS.out; have := HB.out; have := HN.out; omega), (Fr.of_below (by rw [HN.out]; exact BV.out)).trans (FV.out.trans (P' := isP S (some b)) D2.out fun q hq => hq.elim (fun e => .inl (.inl e)) fun e => .inr (by cases e; rw [HB.out]; exact Nat.le_refl _)) fun q hq => .inl hq⟩
  | some b =>
    have HB : Hid (b < v.heap.size) := Lib.hid (HV.out.lt b (.inr rfl))
    obtain ⟨u, hu⟩ : ∃ u, v = u := ⟨_, rfl⟩
    subst hu
    have HW := HV
    have RX2 := RX
    have HX2 := HX
    go_enter Try.func34, Try.ntmps34
    go_upto_region 3 with (fail)
    clear qT c0
    try rw [hv]
    have C0 : ∀ w', Below v.heap.size v w' → w'.cell? ⟨S, 0, none⟩ = some (.map (some b)) := fun w' hb => (HW.out.grow hb).c0
    refine wp_region_end 7 (S := fun w' => Below v.heap.size v w') (by kernel_rfl) (by kernel_rfl) (Below.refl _ v).drew (fun hHeld => ?_)
    refine wpAnyH_take (i := 0) (v := ?_) rfl (by kernel_rfl) (by kernel_rfl) (by kernel_rfl) (fun _ _ _ h => h) (Or.inl ⟨by rfl, ?_⟩) (by assumption) ?_
    rotate_left
    · (intro w hSw; (try dsimp only at hSw); go_simp; try with_reducible rfl)
    simp only [Act.put, List.getElem_toArray, List.getElem_cons_zero, List.setIfInBounds_toArray, List.set_cons_zero, List.set_cons_succ]
    refine wpAnyH_take (i := 1) (v := ?_) rfl (by kernel_rfl) (by kernel_rfl) (by kernel_rfl) (fun _ _ _ h => h) (Or.inl ⟨by rfl, ?_⟩) (by assumption) ?_
    rotate_left
    · (intro w hSw; (try dsimp only at hSw); go_simp; try with_reducible rfl)
    simp only [Act.put, List.getElem_toArray, List.getElem_cons_succ, List.getElem_cons_zero, List.setIfInBounds_toArray, List.set_cons_zero, List.set_cons_succ]
    refine wpAnyH_take (i := 2) (v := ?_) rfl (by kernel_rfl) (by kernel_rfl) (by kernel_rfl) (fun _ _ _ h => h) (Or.inl ⟨by rfl, ?_⟩) (by assumption) ?_
    rotate_left
    · (intro w hSw; (try dsimp only at hSw); go_simp; try with_reducible rfl)
    simp only [Act.put, List.getElem_toArray, List.getElem_cons_succ, List.getElem_cons_zero, List.setIfInBounds_toArray, List.set_cons_zero, List.set_cons_succ]
    refine wpAnyH_take (i := 3) (v := ?_) rfl (by kernel_rfl) (by kernel_rfl) (by kernel_rfl) (fun _ _ _ h => h) (Or.inl ⟨by rfl, ?_⟩) (by assumption) ?_
    rotate_left
    · (intro w hSw; have z := C0 w hSw; go_simp; try with_reducible rfl)
    simp only [Act.put, List.getElem_toArray, List.getElem_cons_succ, List.getElem_cons_zero, List.setIfInBounds_toArray, List.set_cons_zero, List.set_cons_succ]
    refine wpAnyH_take (i := 4) (v := ?_) rfl (by kernel_rfl) (by kernel_rfl) (by kernel_rfl) (fun _ _ _ h => h) (Or.inl ⟨by rfl, ?_⟩) (by assumption) ?_
    rotate_left
    · (intro w hSw; (try dsimp only at hSw); go_simp; try with_reducible rfl)
    simp only [Act.put, List.getElem_toArray, List.getElem_cons_succ, List.getElem_cons_zero, List.setIfInBounds_toArray, List.set_cons_zero, List.set_cons_succ]
    refine wpAnyH_take (i := 5) rfl (by kernel_rfl) (by kernel_rfl) (by kernel_rfl) (fun _ _ _ h => h) (yieldsIf_load_mid (by rfl) 53 (.tmp 5) rfl N (0) rfl (sdV x) _ (fun w h => range_keep1 (range_of RX2.out) (h.block N (bl_lt RX2.out))) Try.underlying53 rfl (szL sz53 LX.out)) (by assumption) ?_
    simp only [Act.put, List.getElem_toArray, List.getElem_cons_succ, List.getElem_cons_zero, List.setIfInBounds_toArray, List.set_cons_zero, List.set_cons_succ]
    refine wpAnyH_ready (rs := [6]) (by kernel_rfl) (by simp) ?_
    refine AllReadyH.cons rfl (fun K hK => ?_) AllReadyH.nil
    go_simp
    go_at_call 38
    refine (kOwn _ x _ (HX2.out.grow (Below.refl _ _).drew)).mono ?_
    rintro e w1 ⟨x', rfl, o1, o2, o3⟩
    have O1 := Lib.hid o1
    have O2 := Lib.hid o2
    have O3 : Hid (Below v.heap.size v w1) := Lib.hid ((Below.refl _ v).drew.trans (o3.mono (Nat.le_refl _)))
    clear o1 o2 o3
    (try go_wp2_with fail)
    refine hK.out _ _ O3.out (fun hHeld => ?_)
    clear hK K
    clear hHeld
    refine wpAnyH_done (by kernel_rfl) ?_ _
    refine qn_last rfl (by rfl) ?_
    have hm1 : MapV w1 b xs.length (fnS xs) := (HW.out.grow O3.out).map
    refine wp_mputV (.tmp 18) (.tmp 19) (.tmp 21) rfl b xs.length (fnS xs) (i : Int) (sdV x') rfl rfl rfl hm1 ML.out WI.out (sd_plain O2.out) ?_
    intro w2 hm2 ht2
    obtain ⟨d1, d2⟩ := put_doneV HW.out HI.out O3.out O2.out hm2 ht2
    have D1 := Lib.hid d1
    have D2 := Lib.hid d2
    clear d1 d2 hm1 hm2 ht2
    go_wp2
    refine bodyPost_end (v := .tuple #[]) (by simp [results, Try.results34, go_sem]) rfl ⟨rfl, some b, x', O1.out, D1.out, fun b' e => .inl (by cases e; rfl), (Fr.of_below (by rw [HN.out]; exact BV.out)).trans D2.out fun q hq => .inl hq⟩
end Go.Proofs.Ytmcmdpbdipgahaa
