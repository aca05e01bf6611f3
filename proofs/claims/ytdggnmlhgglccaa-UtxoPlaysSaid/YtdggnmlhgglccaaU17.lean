/-
  Back.
-/
import Derived.Test.YtdggnmlhgglccaaU16
namespace Go.Proofs.Ytdggnmlhgglccaa
open Go.RowKit
set_option maxRecDepth 100000
attribute [local go_sem] Oper.semAt_some
attribute [local irreducible] ptV cnV zeros MapC stV
/-- the world in which Back has laid what it was handed -/
def boxW (w : World) (S u : Nat) : World := (w.alloc (Obj.cells #[.pointer (some ⟨S, 0, none⟩)] 24)).alloc (Obj.cells #[.int .i64 u] 54)
theorem boxW_size (w : World) (S u : Nat) : (boxW w S u).heap.size = w.heap.size + 2 := by unfold boxW; rw [World.size_alloc, World.size_alloc]
theorem boxW_below (w : World) (S u : Nat) : Below w.heap.size w (boxW w S u) := ((Below.refl _ w).alloc (Nat.le_refl _) _).alloc (by simp) _
theorem boxW_s (w : World) (S u : Nat) : BL (boxW w S u) w.heap.size [.pointer (some ⟨S, 0, none⟩)] 24 := bl_keep (heap_alloc_last w _) (Below.heap_alloc _ _ _ (by simp))
theorem boxW_u (w : World) (S u : Nat) : BL (boxW w S u) (w.heap.size + 1) [.int .i64 u] 54 := by
  have := heap_alloc_last (w.alloc (Obj.cells #[.pointer (some ⟨S, 0, none⟩)] 24)) (Obj.cells #[.int .i64 u] 54)
  rw [World.size_alloc] at this
  exact this
theorem bl_c0 {w : World} {b : Nat} {v : Value} {T : TypeId} (h : BL w b [v] T) : w.cell? ⟨b, 0, none⟩ = some v := by rw [cell_of_row w b 0 _ _ _ h]; rfl
theorem uBackNo (S : Nat) (L : List Stp) (P : Nat → Prop) (u : Nat) (w : World) (h : SetIs w S L P) (hu : L.length < u) :
    Calls Try.prog 16 #[.pointer (some ⟨S, 0, none⟩), .agg #[.int .i64 u]] w fun e w' => e = .returned (.bool false) ∧ Below w.heap.size w w' := by
  obtain ⟨v, hv⟩ : ∃ v, boxW w S u = v := ⟨_, rfl⟩
  obtain ⟨m, A, c, h⟩ := h
  have h := h.keep (w' := boxW w S u) (fun q hq => (boxW_below w S u).block q (h.lt q hq)) (boxW_below w S u).size
  have c2 := h.c2
  have cS := bl_c0 (boxW_s w S u)
  have cU := bl_c0 (boxW_u w S u)
  have hB := Lib.hid (boxW_below w S u)
  have hlt : decide ((L.length : Int) < u) = true := by simp; omega
  rw [hv] at c2 cS cU hB
  clear h
  go_enter Try.func16, Try.ntmps16
  go_upto_region 1 with (fail)
  (try change Code.wp _ _ _ _ (boxW w S u))
  rw [hv]
  go_quiet (fail)
  go_wp2
  go_ret
  exact ⟨rfl, below_drewN hB.out _⟩
theorem sz75 (w : World) : (sizeOf (Try.prog.elem 68)).run Try.prog w = .ok 21 w := by kernel_rfl
theorem slF (g n cap k : Nat) (w : World) (hk : k ≤ cap) : (Instr.slice 68 (.slice (some ⟨g, 0, none⟩) n cap) none (some (.int .i64 k)) none).run Try.prog w = .ok (.slice (some ⟨g, 0, none⟩) k cap) w := by
  rw [run_slice_h w 68 _ n cap Try.underlying68 .i64 k (by omega) (by omega), sz75 w]
  simp only [Result.andThen, sliced, Int.toNat_natCast, Nat.sub_zero]
  by_cases h0 : cap = 0
  · subst h0; simp
  · rw [if_neg (by omega)]
    simp [Addr.add]
theorem slB (g n cap k : Nat) (w : World) (hk : k ≤ n) (h0 : k < cap) : (Instr.slice 68 (.slice (some ⟨g, 0, none⟩) n cap) (some (.int .i64 k)) none none).run Try.prog w = .ok (.slice (some ⟨g, k * 21, none⟩) (n - k) (cap - k)) w := by
  rw [run_slice_l w 68 _ n cap Try.underlying68 .i64 k (by omega) (by omega), sz75 w]
  simp only [Result.andThen, sliced, Int.toNat_natCast]
  rw [if_neg (by omega)]
  simp [Addr.add]
  omega
theorem slE (g n cap : Nat) (w : World) (hk : cap ≤ n) : (Instr.slice 68 (.slice (some ⟨g, 0, none⟩) n cap) (some (.int .i64 cap)) none none).run Try.prog w = .ok (.slice (some ⟨g, 0, none⟩) (n - cap) 0) w := by
  rw [run_slice_l w 68 _ n cap Try.underlying68 .i64 cap (by omega) (by omega), sz75 w]
  simp only [Result.andThen, sliced, Int.toNat_natCast]
  simp
theorem slN (w : World) : (Instr.slice 68 (.slice none 0 0) (some (.int .i64 0)) none none).run Try.prog w = .ok (.slice none 0 0) w := by
  rw [run_slice_l w 68 _ 0 0 Try.underlying68 .i64 0 (by omega) (by omega), sz75 w]
  simp [Result.andThen, sliced]
theorem slM (w : World) : (Instr.slice 68 (.slice none 0 0) none (some (.int .i64 0)) none).run Try.prog w = .ok (.slice none 0 0) w := by
  rw [run_slice_h w 68 _ 0 0 Try.underlying68 .i64 0 (by omega) (by omega), sz75 w]
  simp [Result.andThen, sliced]
theorem row_rng {W : World} {g n cap : Nat} {L : List Stp} (hL : allOk L) (h : W.ownsRow 0 75 21 (.slice (some ⟨g, 0, none⟩) n cap) L.length (rowV L)) {u : Nat} (hu : u ≤ L.length) : g < W.heap.size ∧ W.rangeAt g (u * 21) (rowV (L.take (L.length - u))) := by
  rcases h.2 with ⟨e, _⟩ | ⟨g', cap', cur, e, _, h3, _, _, _, h6⟩
  · cases e
  · cases e
    refine ⟨lt_of_block h3, ?_⟩
    have r1 : W.rangeAt g 0 cur.toList := range_of (t := 75) (by rw [Array.toArray_toList]; exact h3)
    rw [← List.take_append_drop (L.length * 21) cur.toList, h6, rowV_drop L (L.length - u)] at r1
    obtain ⟨r2, _⟩ := range_app r1
    obtain ⟨_, r3⟩ := range_app r2
    rw [rowV_len fun x hx => hL x (List.mem_of_mem_drop hx), List.length_drop, Nat.zero_add] at r3
    have : L.length - (L.length - u) = u := by omega
    rwa [this] at r3
theorem row_parts {w : World} {A : Option Addr} {c u : Nat} {L : List Stp} (hL : allOk L) (hw : 0 < w.heap.size) (h : w.ownsRow 0 75 21 (.slice A L.length c) L.length (rowV L)) (hu : u ≤ L.length) :
    ∃ g o B bn bc, (∀ w', (Instr.slice 68 (.slice A L.length c) (some (.int .i64 u)) none none).run Try.prog w' = .ok (.slice B bn bc) w') ∧ (∀ w', (Instr.slice 68 (.slice A L.length c) none (some (.int .i64 u)) none).run Try.prog w' = .ok (.slice A u c) w')
      ∧ g < w.heap.size ∧ (∀ W : World, w.heap.size ≤ W.heap.size → W.ownsRow 0 75 21 (.slice A L.length c) L.length (rowV L) → RowS W g o (.slice B bn bc) (L.take (L.length - u)) ∧ W.rangeAt g o (rowV (L.take (L.length - u)))) := by
  rcases h.2 with ⟨e1, e2⟩ | ⟨g, cap, cur, e1, _, h3, h4, h5, h6, h7⟩
  · injection e1 with a1 a2 a3
    subst a1 a3
    obtain rfl : L = [] := List.length_eq_zero_iff.1 e2
    obtain rfl : u = 0 := by simpa using hu
    exact ⟨0, 0, none, 0, 0, slN, slM, hw, fun W _ _ => ⟨.inl ⟨rfl, rfl⟩, fun j v hj => (by cases hj)⟩⟩
  · injection e1 with a1 a2 a3
    subst a1 a3
    by_cases hc : u < c
    · refine ⟨g, u * 21, some ⟨g, u * 21, none⟩, L.length - u, c - u, fun w' => slB g L.length c u w' hu hc, fun w' => slF g L.length c u w' (by omega), lt_of_block h3, fun W _ hW => ?_⟩
      obtain ⟨r1, r2⟩ := row_rng hL hW hu
      exact ⟨.inr ⟨c - u, by rw [List.length_take]; congr 1; omega, r1, r2⟩, r2⟩
    · obtain rfl : u = c := by omega
      have hl : L.length = u := by omega
      refine ⟨g, 0, some ⟨g, 0, none⟩, L.length - u, 0, fun w' => slE g L.length u w' hu, fun w' => slF g L.length u u w' (by omega), lt_of_block h3, fun W _ hW => ?_⟩
      obtain ⟨r1, _⟩ := row_rng hL hW hu
      have e0 : L.take (L.length - u) = [] := by rw [hl, Nat.sub_self]; rfl
      have e4 : L.length - u = 0 := by omega
      rw [e0, e4]
      exact ⟨.inr ⟨0, rfl, r1, fun j v hj => (by cases hj)⟩, fun j v hj => (by cases hj)⟩
end Go.Proofs.Ytdggnmlhgglccaa
