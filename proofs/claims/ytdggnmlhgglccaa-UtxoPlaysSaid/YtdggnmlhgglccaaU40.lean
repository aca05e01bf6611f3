/-
  Rows of any kind: cuts of them, append of many.
-/
import Derived.Test.YtdggnmlhgglccaaU35c
import Derived.Deep.Upon
namespace Go.Proofs.Ytdggnmlhgglccaa
open Go.RowKit
set_option maxRecDepth 100000
/-- m elements, ys, where A points -/
def SrcG (w : World) (sz : Nat) (A : Option Addr) (m : Nat) (ys : List Value) : Prop := ys.length = m * sz ∧ (∀ u ∈ ys, u.oneCell' = true) ∧ (m = 0 ∨ ∃ b o, A = some ⟨b, o, none⟩ ∧ b < w.heap.size ∧ w.rangeAt b o ys)
theorem SrcG.keep {w w' : World} {sz m : Nat} {A : Option Addr} {ys : List Value} (h : SrcG w sz A m ys) (hb : Below w.heap.size w w') : SrcG w' sz A m ys := by
  obtain ⟨h1, h2, h3⟩ := h
  refine ⟨h1, h2, h3.imp id ?_⟩
  rintro ⟨b, o, e, hl, hr⟩
  exact ⟨b, o, e, Nat.lt_of_lt_of_le hl hb.size, range_keep1 hr (hb.block b hl)⟩
theorem rng_take {w : World} {b o k : Nat} {xs : List Value} (h : w.rangeAt b o xs) : w.rangeAt b o (xs.take k) := (range_app (xs := xs.take k) (ys := xs.drop k) (by rw [List.take_append_drop]; exact h)).1
theorem rng_drop {w : World} {b o k : Nat} {xs : List Value} (h : w.rangeAt b o xs) (hk : k ≤ xs.length) : w.rangeAt b (o + k) (xs.drop k) := by
  have := (range_app (xs := xs.take k) (ys := xs.drop k) (by rw [List.take_append_drop]; exact h)).2
  rwa [List.length_take, Nat.min_eq_left hk] at this
theorem ownG_rng {w : World} {base n sz c g : Nat} {t : TypeId} {xs : List Value} (h : w.ownsRow base t sz (.slice (some ⟨g, 0, none⟩) n c) n xs) : g < w.heap.size ∧ n ≤ c ∧ w.rangeAt g 0 xs := by
  rcases h.2 with ⟨e, _⟩ | ⟨g', c', cur, e, _, h3, h4, _, _, h6⟩
  · cases e
  · injection e with e1 e2 e3
    cases e1
    subst e3
    refine ⟨lt_of_block h3, h4, ?_⟩
    have r1 : w.rangeAt g 0 cur.toList := range_of (t := t) (by rw [Array.toArray_toList]; exact h3)
    rw [← h6]
    exact rng_take r1
theorem own_nil {w : World} {base n sz c : Nat} {t : TypeId} {xs : List Value} (h : w.ownsRow base t sz (.slice none n c) n xs) : n = 0 ∧ c = 0 := by
  rcases h.2 with ⟨e, e2⟩ | ⟨g', c', cur, e, _⟩
  · injection e with e1 e3 e4
    exact ⟨e2, e4⟩
  · cases e
theorem own_addr {w : World} {base n sz c : Nat} {t : TypeId} {xs : List Value} {A : Option Addr} (h : w.ownsRow base t sz (.slice A n c) n xs) : (A = none ∧ n = 0 ∧ c = 0) ∨ ∃ g, A = some ⟨g, 0, none⟩ := by
  cases A with
  | none => exact .inl ⟨rfl, own_nil h⟩
  | some a =>
    rcases h.2 with ⟨e, _⟩ | ⟨g', c', cur, e, _⟩
    · cases e
    · injection e with e1
      exact .inr ⟨g', e1⟩
theorem gFront {sl t : TypeId} {sz : Nat} (hel : Try.prog.elem sl = t) (hu : Try.prog.underlying sl = some (.slice t)) (hz : ∀ w, (sizeOf (Try.prog.elem sl)).run Try.prog w = .ok sz w) (A : Option Addr) (hA : A = none ∨ ∃ g, A = some ⟨g, 0, none⟩) (n cap k : Nat) (w : World) (hk : k ≤ cap) : (Instr.slice sl (.slice A n cap) none (some (.int .i64 k)) none).run Try.prog w = .ok (.slice A k cap) w := by
  rw [run_slice_h w sl _ n cap (hel ▸ hu) .i64 k (by omega) (by omega), hz w]
  simp only [Result.andThen, sliced, Int.toNat_natCast, Nat.sub_zero]
  rcases hA with rfl | ⟨g, rfl⟩
  · simp
  · by_cases h0 : cap = 0
    · subst h0; simp
    · rw [if_neg (by omega)]
      simp [Addr.add]
theorem gBack {sl t : TypeId} {sz : Nat} (hel : Try.prog.elem sl = t) (hu : Try.prog.underlying sl = some (.slice t)) (hz : ∀ w, (sizeOf (Try.prog.elem sl)).run Try.prog w = .ok sz w) (A : Option Addr) (n cap k : Nat) (w : World) (hk : k ≤ n) : (Instr.slice sl (.slice A n cap) (some (.int .i64 k)) none none).run Try.prog w = .ok (.slice (if cap = k then A else A.map (·.add (k * sz))) (n - k) (cap - k)) w := by
  rw [run_slice_l w sl _ n cap (hel ▸ hu) .i64 k (by omega) (by omega), hz w]
  simp only [Result.andThen, sliced, Int.toNat_natCast]
/-- a row of one's own, cut at k -/
theorem own_parts {sl t : TypeId} {sz : Nat} (hel : Try.prog.elem sl = t) (hu : Try.prog.underlying sl = some (.slice t)) (hz : ∀ w, (sizeOf (Try.prog.elem sl)).run Try.prog w = .ok sz w) {w : World} {base n c : Nat} {A : Option Addr} {xs : List Value} (h : w.ownsRow base t sz (.slice A n c) n xs) (h1 : ∀ u ∈ xs, u.oneCell' = true) {k : Nat} (hk : k ≤ n) :
    ∃ B bc, (∀ w', (Instr.slice sl (.slice A n c) none (some (.int .i64 k)) none).run Try.prog w' = .ok (.slice A k c) w') ∧ (∀ w', (Instr.slice sl (.slice A n c) (some (.int .i64 k)) none none).run Try.prog w' = .ok (.slice B (n - k) bc) w') ∧ SrcG w sz A k (xs.take (k * sz)) ∧ SrcG w sz B (n - k) (xs.drop (k * sz)) := by
  have hl : xs.length = n * sz := h.1
  have hkl : k * sz ≤ xs.length := by rw [hl]; exact Nat.mul_le_mul_right _ hk
  have hA : A = none ∨ ∃ g, A = some ⟨g, 0, none⟩ := (own_addr h).imp And.left id
  have hc : n ≤ c := by
    rcases own_addr h with ⟨_, e1, e2⟩ | ⟨g, rfl⟩
    · omega
    · exact (ownG_rng h).2.1
  refine ⟨_, _, fun w' => gFront hel hu hz A hA n c k w' (by omega), fun w' => gBack hel hu hz A n c k w' hk, ⟨?_, fun u hu' => h1 u (List.mem_of_mem_take hu'), ?_⟩, ⟨?_, fun u hu' => h1 u (List.mem_of_mem_drop hu'), ?_⟩⟩
  · rw [List.length_take]; omega
  · rcases own_addr h with ⟨_, e1, e2⟩ | ⟨g, rfl⟩
    · exact .inl (by omega)
    · exact .inr ⟨g, 0, rfl, (ownG_rng h).1, rng_take (ownG_rng h).2.2⟩
  · rw [List.length_drop, hl, Nat.sub_mul]
  · by_cases h0 : n - k = 0
    · exact .inl h0
    · refine .inr ?_
      rcases own_addr h with ⟨_, e1, e2⟩ | ⟨g, rfl⟩
      · omega
      · refine ⟨g, k * sz, ?_, (ownG_rng h).1, ?_⟩
        · rw [if_neg (by omega)]
          simp [Addr.add]
          omega
        · have := rng_drop (ownG_rng h).2.2 hkl
          rwa [Nat.zero_add] at this
theorem own_base {w : World} {base n e k : Nat} {v : Value} {xs : List Value} (h : w.ownsRow base e k v n xs) : ∀ q, v.ownBlock = some q → base ≤ q := fun _ hq => (own_blk h hq).1
/-- append of many to a row of one's own -/
theorem run_appG {sl t : TypeId} {z : Value} {sz by' : Nat} (hu : Try.prog.underlying sl = some (.slice t)) (hi : (Try.prog.info? t).map (fun i => (i.zero, i.size, i.bytes)) = some (some z, sz, by')) (hz : z.cells.size = sz) (h0 : 0 < sz) (hb : by' ≤ 1000) {W : World} {base n m c : Nat} {v : Value} {xs ys : List Value} {B : Option Addr} (h : W.ownsRow base t sz v n xs) (hs : SrcG W sz B m ys) (hn : n ≤ 100000) (hm : m ≤ 100000) (hbase : base ≤ W.heap.size) (ty : TypeId) :
    ∃ A c' w', (Builtin.append_ #[sl, sl] ty #[v, .slice B m c]).run Try.prog W = .ok (.slice A (n + m) c') w' ∧ w'.ownsRow base t sz (.slice A (n + m) c') (n + m) (xs ++ ys) ∧ Below base W w' := by
  obtain ⟨i, i1, i2, i3, i4⟩ := info_parts hi
  obtain ⟨s1, s2, s3⟩ := hs
  have hby : (n + m) * by' ≤ 140737488355328 := Nat.le_trans (Nat.mul_le_mul (show n + m ≤ 200000 by omega) hb) (by decide)
  have fin : ∀ {v' : Value} {w' : World}, w'.ownsRow base t sz v' (n + m) (xs ++ ys) → W.grownBy w' v.ownBlock → Below base W w' := fun ho hg => ⟨hg.os, hg.tape, hg.output, hg.size, fun q hq => hg.block q (by omega) fun e => by have := own_base h q e.symm; omega⟩
  by_cases hm0 : m = 0
  · subst hm0
    obtain rfl : ys = [] := List.length_eq_zero_iff.1 (by omega)
    cases B with
    | some ad =>
      obtain ⟨v', w', r1, r2, r3, _, _⟩ := run_append_own_at W base sl ty t i z sz by' hu i1 i2 i3 i4 hz h0 v n xs h ad 0 c [] (by omega) (fun j u hj => by cases hj) (fun u hu => by cases hu) (by unfold maxLen; omega) hby hbase
      obtain ⟨A, c', rfl⟩ := own_sl r2
      exact ⟨A, c', w', r1, r2, fin r2 r3⟩
    | none =>
      obtain ⟨A, c', rfl⟩ := own_sl h
      have hle : n ≤ c' := by
        rcases own_addr h with ⟨_, e1, e2⟩ | ⟨g, rfl⟩
        · omega
        · exact (ownG_rng h).2.1
      refine ⟨A, c', W, ?_, by rw [List.append_nil, Nat.add_zero]; exact h, Below.refl _ _⟩
      refine run_append_nothing W sl sl ty t i hu i1 A n c' hle _ ⟨.inl ⟨t, hu⟩, fun w' => ?_, ?_, ?_, ?_, fun u hu => by cases hu⟩
      · simp [Builtin.lenOf]
      · simp [Builtin.firstCells]
      · simp [Builtin.firstCells]
      · simp
  · rcases s3 with h3 | ⟨b, o, rfl, hl, hr⟩
    · exact absurd h3 hm0
    · obtain ⟨v', w', r1, r2, r3, _, _⟩ := run_append_own_at W base sl ty t i z sz by' hu i1 i2 i3 i4 hz h0 v n xs h ⟨b, o, none⟩ m c ys s1 (fun j u hj => by rw [Addr.add_mid]; exact hr j u hj) s2 (by unfold maxLen; omega) hby hbase
      obtain ⟨A, c', rfl⟩ := own_sl r2
      exact ⟨A, c', w', r1, r2, fin r2 r3⟩
theorem step_appG {sl t : TypeId} {z : Value} {sz by' : Nat} (hu : Try.prog.underlying sl = some (.slice t)) (hi : (Try.prog.info? t).map (fun i => (i.zero, i.size, i.bytes)) = some (some z, sz, by')) (hz : z.cells.size = sz) (h0 : 0 < sz) (hb : by' ≤ 1000) {w : World} {ops : Array Oper} {o : Oper} {a : Act} {K : Act → World → Prop} {Q : Exit → Act → World → Prop} {E : Prop} (hgd : o.guard = none) (s y : Operand)
    (ho : o.op = .call { callee := .builtin .append, args := #[s, y], argTypes := #[sl, sl] }) (base n m c : Nat) (v : Value) (xs ys : List Value) (B : Option Addr) (hv : a.eval s = v) (hx : a.eval y = .slice B m c) (hown : w.ownsRow base t sz v n xs) (hs : SrcG w sz B m ys) (hn : n ≤ 100000) (hm : m ≤ 100000) (hbase : base ≤ w.heap.size)
    (h : ∀ A c' w', w'.ownsRow base t sz (.slice A (n + m) c') (n + m) (xs ++ ys) → Below base w w' → K (a.put o.dst (.slice A (n + m) c')) w') : if Region.wanted o (yielded ops a.tmps) = true then Oper.wp Try.prog o a w K Q else E := by
  have hw : Region.wanted o (yielded ops a.tmps) = true := by simp [Region.wanted, hgd]
  rw [if_pos hw]
  obtain ⟨A, c', w', hr, h1, h2⟩ := run_appG (c := c) hu hi hz h0 hb hown hs hn hm hbase o.type
  unfold Oper.wp execOp
  simp only [ho, resolve, invoke, builtin, Sem.run_bind, Sem.run_pure, Result.andThen_ok, List.map_toArray, List.map_cons, List.map_nil, hv, hx, hr]
  exact h A c' w' h1 h2
end Go.Proofs.Ytdggnmlhgglccaa
