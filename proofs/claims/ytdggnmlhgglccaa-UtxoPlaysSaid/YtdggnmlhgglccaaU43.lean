/-
  A region that draws, whose last operation waits for all: the last one by itself.
-/
import Derived.Test.YtdggnmlhgglccaaU42
import Derived.Deep.RegionHeld
namespace Go.Proofs.Ytdggnmlhgglccaa
open Go.RowKit
set_option maxRecDepth 100000
section
variable {P : Program} {ops : Array Oper} {md : Region.Mode} {S : World → Prop}
/-- what is asked behind the region, but for the ordinary end -/
def Qn (Q : Exit → Act → World → Prop) (R : Act → World → Prop) : Exit → Act → World → Prop := fun e a w => match e with
  | .normal => R a w
  | e => Q e a w
theorem upon_q {Q : Exit → Act → World → Prop} {R : Act → World → Prop} {o : Oper} {a : Act} {K : Act → World → Prop} {w : World} (h : o.wp P a w K (Qn Q R)) : o.wp P a w K Q := by
  unfold Oper.wp at *
  generalize (execOp a.eval o).run P w = r at *
  cases r with
  | ok n w' =>
    cases n with
    | enter f args =>
      refine Calls.mono h fun e w'' he => ?_
      cases e <;> exact he
    | _ => exact h
  | halt x w' =>
    cases x <;> exact h
theorem wpOp_q {Q : Exit → Act → World → Prop} {R : Act → World → Prop} {i : Nat} {a : Act} {K : Act → World → Prop} {w : World} (h : wpOp P ops (Qn Q R) i K a w) : wpOp P ops Q i K a w := by
  unfold wpOp at *
  split
  · rename_i h0; simp only [h0] at h; exact h
  · rename_i o h0
    simp only [h0] at h
    split
    · rename_i hw
      simp only [hw, if_true] at h
      exact h.imp upon_q fun h => ⟨h.1, h.2⟩
    · rename_i hw
      simp only [hw] at h
      exact h
theorem any_done {Q : Exit → Act → World → Prop} {listed : Array Bool} {a : Act} {w : World} (hr : Region.ready md ops listed = []) (h : Q .normal a w) : ∀ fuel, wpAny P md ops Q fuel listed a w
  | 0 => ⟨hr, h⟩
  | _ + 1 => ⟨fun _ => h, by rw [hr]; simp⟩
/-- the last operation, n, waits for all -/
structure Ends (md : Region.Mode) (ops : Array Oper) (n : Nat) (on : Oper) : Prop where
  at' : ops[n]? = some on
  size : ops.size = n + 1
  back : ∀ j oj, ops[j]? = some oj → ∀ e ∈ oj.after, Region.binds md e = true → e.on < j
  all : ∀ j, j < n → ∃ e ∈ on.after, Region.binds md e = true ∧ (e.on = j ∨ ∃ ok, ops[e.on]? = some ok ∧ ∃ f ∈ ok.after, Region.binds md f = true ∧ f.on = j)
def Clos (md : Region.Mode) (ops : Array Oper) (L : Array Bool) : Prop := ∀ k ok, ops[k]? = some ok → L.getD k false = true → ∀ e ∈ ok.after, Region.binds md e = true → L.getD e.on false = true
theorem gd {L : Array Bool} {j : Nat} (h : j < L.size) (d : Bool) : L.getD j d = L[j] := by simp [h]
theorem any_end {n : Nat} {on : Oper} (E : Ends md ops n on) {Q : Exit → Act → World → Prop} : ∀ (fuel : Nat) (L0 L1 : Array Bool) (a : Act) (w : World), L0.size = n + 1 → L1.size = n + 1 → (∀ j d, j < n → L1.getD j d = L0.getD j d) → L0.getD n true = false → L1.getD n true = true → Clos md ops L0 →
    wpAnyH P md ops (Qn Q fun a w => wpOp P ops Q n (fun a' w' => Q .normal a' w') a w) S fuel L1 a w → wpAny P md ops Q (fuel + 1) L0 a w := by
  intro fuel
  induction fuel with
  | zero => ?z
  | succ fuel ih => ?s
  all_goals
    intro L0 L1 a w s0 s1 he h0 h1 hc H
    have lt : ∀ {L : Array Bool} {j}, j ∈ Region.ready md ops L → j < n + 1 := fun {L j} hj => by
      obtain ⟨_, o, ho, _⟩ := mem_ready.1 hj
      have := (Array.getElem?_eq_some_iff.1 ho).1
      rwa [E.size] at this
    have ne : n ∉ Region.ready md ops L1 := fun h => by have := (mem_ready.1 h).1; rw [h1] at this; cases this
    have iff : ∀ {j}, j < n → (j ∈ Region.ready md ops L1 ↔ j ∈ Region.ready md ops L0) := fun {j} hj => by
      rw [mem_ready, mem_ready, he j true hj]
      refine and_congr_right fun _ => exists_congr fun o => and_congr_right fun ho => ?_
      refine forall_congr' fun e => forall_congr' fun hm => forall_congr' fun hb => ?_
      rw [he e.on false (by have := E.back j o ho e hm hb; omega)]
    have full : Region.ready md ops L1 = [] → ∀ j, j < n → L0.getD j false = true := fun hr j => by
      induction j using Nat.strongRecOn with
      | _ j ij =>
        intro hj
        cases hg : L0.getD j false with
        | true => rfl
        | false =>
          have hjo : j < ops.size := by rw [E.size]; omega
          have : j ∈ Region.ready md ops L1 := (iff hj).2 (mem_ready.2 ⟨by rw [gd (by omega)] at hg ⊢; exact hg, ops[j], Array.getElem?_eq_getElem hjo, fun e hm hb => by
            have := E.back j _ (Array.getElem?_eq_getElem hjo) e hm hb
            exact ij e.on this (by omega)⟩)
          rw [hr] at this; cases this
    have last : (∀ j, j < n → L0.getD j false = true) → n ∈ Region.ready md ops L0 := fun h => mem_ready.2 ⟨h0, on, E.at', fun e hm hb => h e.on (E.back n on E.at' e hm hb)⟩
    have whole : n ∈ Region.ready md ops L0 → ∀ j, j < n → L0.getD j false = true := fun h j hj => by
      obtain ⟨_, o, ho, hall⟩ := mem_ready.1 h
      rw [E.at'] at ho
      cases ho
      obtain ⟨e, hm, hb, h2⟩ := E.all j hj
      rcases h2 with rfl | ⟨ok, hok, f, fm, fb, rfl⟩
      · exact hall e hm hb
      · exact hc e.on ok hok (hall e hm hb) f fm fb
    have empty : (∀ j, j < n → L0.getD j false = true) → Region.ready md ops L1 = [] := fun h => by
      refine List.eq_nil_iff_forall_not_mem.2 fun j hj => ?_
      have hl := lt hj
      by_cases hjn : j = n
      · exact ne (hjn ▸ hj)
      · have hj2 : j < n := by omega
        have h3 := (mem_ready.1 hj).1
        have h4 := h j hj2
        rw [he j true hj2, gd (by omega)] at h3
        rw [gd (by omega), h3] at h4
        cases h4
    have done : (∀ j, j < n → L0.getD j false = true) → Region.ready md ops (L0.setIfInBounds n true) = [] := fun h => by
      refine List.eq_nil_iff_forall_not_mem.2 fun j hj => ?_
      have hl := lt hj
      have h3 := (mem_ready.1 hj).1
      by_cases hjn : j = n
      · subst hjn
        rw [gd (by rw [Array.size_setIfInBounds]; omega)] at h3
        simp at h3
      · have hj2 : j < n := by omega
        have h4 := h j hj2
        rw [getD_set_ne true (fun e => hjn e.symm), gd (by omega)] at h3
        rw [gd (by omega), h3] at h4
        cases h4
    have atEnd : n ∈ Region.ready md ops L0 → (Qn Q fun a w => wpOp P ops Q n (fun a' w' => Q .normal a' w') a w) Exit.normal a w → ∀ fuel, wpOp P ops Q n (wpAny P md ops Q fuel (L0.setIfInBounds n true)) a w := fun hn hq fuel =>
      wpOp_mono (fun a' w' h => any_done (done (whole hn)) h fuel) hq
    refine ⟨fun hr => ?_, fun i hi => ?_⟩
    · exfalso
      cases hr1 : Region.ready md ops L1 with
      | nil => have := last (full hr1); rw [hr] at this; cases this
      | cons j l =>
        have hj : j ∈ Region.ready md ops L1 := by rw [hr1]; simp
        have hjn : j < n := by
          have := lt hj
          have : j ≠ n := fun e => ne (e ▸ hj)
          omega
        have := (iff hjn).1 hj
        rw [hr] at this; cases this
    · by_cases hin : i = n
      · subst hin
        have hr1 := empty (whole hi)
        first
          | exact atEnd hi H.2 _
          | exact atEnd hi (H.1 hr1) _
      · have hin2 : i < n := by have := lt hi; omega
        have hi1 := (iff hin2).2 hi
        first
          | (have := H.1; rw [this] at hi1; cases hi1)
          | (refine wpOp_mono (fun a' w' h => ?_) (wpOp_q (H.2 i hi1))
             refine ih (L0.setIfInBounds i true) (L1.setIfInBounds i true) a' w' (by rw [Array.size_setIfInBounds]; exact s0) (by rw [Array.size_setIfInBounds]; exact s1) (fun j d hj => ?_) (by rw [getD_set_ne true hin]; exact h0) (by rw [getD_set_ne true hin]; exact h1) (fun k ok hk hl e hm hb => ?_) h.2
             · by_cases hij : i = j
               · subst hij
                 rw [gd (by rw [Array.size_setIfInBounds]; omega), gd (by rw [Array.size_setIfInBounds]; omega)]
                 simp
               · rw [getD_set_ne d hij, getD_set_ne d hij]
                 exact he j d hj
             · refine getD_set_true ?_
               by_cases hik : i = k
               · subst hik
                 obtain ⟨_, o, ho, hall⟩ := mem_ready.1 hi
                 rw [hk] at ho
                 cases ho
                 exact hall e hm hb
               · rw [getD_set_ne false hik] at hl
                 exact hc k ok hk hl e hm hb)
def endsB (md : Region.Mode) (ops : Array Oper) (n : Nat) : Bool :=
  ops.size == n + 1 && (List.range (n + 1)).all (fun j => match ops[j]? with
    | none => true
    | some oj => oj.after.toList.all fun e => !Region.binds md e || decide (e.on < j)) &&
  match ops[n]? with
  | none => false
  | some on => (List.range n).all fun j => on.after.toList.any fun e => Region.binds md e && (e.on == j || match ops[e.on]? with
    | none => false
    | some ok => ok.after.toList.any fun f => Region.binds md f && f.on == j)
theorem ends_of {n : Nat} (h : endsB md ops n = true) : ∃ on, Ends md ops n on := by
  unfold endsB at h
  rw [Bool.and_eq_true, Bool.and_eq_true] at h
  obtain ⟨⟨h1, h2⟩, h3⟩ := h
  have h1 : ops.size = n + 1 := by simpa using h1
  cases ho : ops[n]? with
  | none => rw [ho] at h3; cases h3
  | some on =>
    rw [ho] at h3
    refine ⟨on, ho, h1, fun j oj hj e hm hb => ?_, fun j hj => ?_⟩
    · have hjl : j < n + 1 := by rw [← h1]; exact (Array.getElem?_eq_some_iff.1 hj).1
      have := List.all_eq_true.1 h2 j (List.mem_range.2 hjl)
      rw [hj] at this
      have := List.all_eq_true.1 this e (by simpa using hm)
      simpa [hb] using this
    · have := List.all_eq_true.1 h3 j (List.mem_range.2 hj)
      obtain ⟨e, hm, h4⟩ := List.any_eq_true.1 this
      rw [Bool.and_eq_true, Bool.or_eq_true] at h4
      obtain ⟨hb, h4⟩ := h4
      refine ⟨e, by simpa using hm, hb, h4.imp (fun h => by simpa using h) fun h => ?_⟩
      cases hk : ops[e.on]? with
      | none => rw [hk] at h; cases h
      | some ok =>
        rw [hk] at h
        obtain ⟨f, fm, h5⟩ := List.any_eq_true.1 h
        rw [Bool.and_eq_true] at h5
        exact ⟨ok, rfl, f, by simpa using fm, h5.1, by simpa using h5.2⟩
/-- A region that draws, whose last operation waits for all: the others in whatever order, a condition held; then the last. -/
theorem wp_region_end {id : Nat} {Q : Exit → Act → World → Prop} {a : Act} {w : World} (n : Nat) (hm : P.follows .mixedOrders = true) (hB : endsB .any ops n = true) (hS : S w.drew)
    (h : S w.drew → wpAnyH P .any ops (Qn Q fun a w => wpOp P ops Q n (fun a' w' => Q .normal a' w') a w) S n ((Array.replicate (n + 1) false).setIfInBounds n true) a w.drew) : (Code.region id ops true).wp P Q a w := by
  obtain ⟨on, E⟩ := ends_of hB
  refine wp_region_any hm ?_
  rw [E.size]
  refine any_end E n _ _ a _ (by simp) (by simp) (fun j d hj => ?_) (by simp) (by simp) (fun k ok hk hl => ?_) (h hS)
  · rw [getD_set_ne d (by omega)]
  · by_cases hkn : k < n + 1
    · rw [gd (by simpa using hkn)] at hl
      simp at hl
    · rw [Array.getD_eq_getD_getElem?, Array.getElem?_eq_none (by simp; omega)] at hl
      cases hl
end
end Go.Proofs.Ytdggnmlhgglccaa
