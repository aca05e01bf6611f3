/-
  Points: the row is new.
-/
import Derived.Test.YtdggnmlhgglccaaU37
namespace Go.Proofs.Ytdggnmlhgglccaa
open Go.RowKit Go.Maps
set_option maxRecDepth 100000
set_option maxHeartbeats 2000000 in
theorem uSorted2 (g : Nat) (lb : Array Value) (eg : ∀ args w, (callFunc g args).run Try.prog w = .ok (.enter g args) w) (K : List (List Int)) (N : Nat) (hN : N ≤ 100000) (hK : K.length ≤ 100000) (w : World)
    (hseq : ∀ w', Below w.heap.size w w' → SeqStopsK Fence.wide 7 Try.prog g lb encP KeepsWalks (fun xs => (xs.map (·.1)).Nodup ∧ ∀ p, p ∈ xs.map (·.1) ↔ p ∈ K) (fun _ => True) N w') :
    Calls Try.prog 34 #[.func (.func g) #[] lb, .func (.func 36) #[] #[]] w fun e w' => ∃ A c ps, e = .returned (.slice A ps.length c) ∧ PRow w' A ps ∧ Ord ps K ∧ Below w.heap.size w w' ∧ (∀ g, A = some ⟨g, 0, none⟩ → w.heap.size ≤ g) := by
  have CC := Lib.hid (uCollect g lb eg _ _ N hN w hseq)
  have HK := Lib.hid hK
  clear hseq hK
  go_enter Try.func34, Try.ntmps34
  go_wp2_with fail
  refine CC.out.mono ?_
  rintro e w1 ⟨A, c, xs, rfl, ⟨g1, g2⟩, g3, g4⟩
  have hl : xs.length ≤ 100000 := by
    have h1 : (xs.map (·.1)).length ≤ K.length := by
      refine len_sub g1 fun p hp => (g2 p).1 hp
    rw [List.length_map] at h1
    have := HK.out
    omega
  have CS := Lib.hid (uSortF w.heap.size A c xs w1 hl g4.size g3)
  have FR := Lib.hid (show ∀ g, A = some ⟨g, 0, none⟩ → w.heap.size ≤ g from fun g e => by
    have h3 : (Value.slice A xs.length c).ownBlock = some g := by rw [e]; rfl
    exact (own_blk g3 h3).1)
  have G := Lib.hid (And.intro g1 (And.intro g2 g4))
  clear g1 g2 g3 g4 CC
  go_wp2_with fail
  refine CS.out.mono ?_
  rintro e w2 ⟨rfl, d, p1, p2, p3, p4⟩
  have hld : (vl d).length = xs.length := by rw [vl, List.length_map, p1.length_eq]
  have R := Lib.hid (show ∃ ps, Value.slice A xs.length c = .slice A ps.length c ∧ PRow w2 A ps ∧ Ord ps K ∧ Below w.heap.size w w2 ∧ (∀ g, A = some ⟨g, 0, none⟩ → w.heap.size ≤ g) from ⟨vl d, by rw [hld], p3, ord_of p1 G.out.1 G.out.2.1 p2, G.out.2.2.trans p4, FR.out⟩)
  clear p1 p2 p3 p4 CS hld
  go_wp2_with fail
  go_ret
  obtain ⟨ps, e, h⟩ := R.out
  exact ⟨A, c, ps, congrArg _ e, h⟩
set_option maxHeartbeats 2000000 in
theorem uPoints2 (S : Nat) (L : List Stp) (P : Nat → Prop) (w : World) (h : SetIs w S L P) (hl : L.length ≤ 100000) :
    Calls Try.prog 20 #[.pointer (some ⟨S, 0, none⟩)] w fun e w' => ∃ A c ps, e = .returned (.slice A ps.length c) ∧ PRow w' A ps ∧ Ord ps (setK L) ∧ Below w.heap.size w w' ∧ (∀ g, A = some ⟨g, 0, none⟩ → w.heap.size ≤ g) := by
  obtain ⟨m, A, c, h⟩ := h
  have c0 := h.c0
  have hk := keys_set h.ok
  have hn : (setK L).length ≤ 100000 := Nat.le_trans (setN_le L) hl
  have hm : MapK w m (setF L) (setK L) := ⟨hk, by
    have := h.map
    cases m with
    | none =>
      have : L = [] := this
      subst this
      rfl
    | some b => exact this.1⟩
  have KEEP : ∀ w', Below w.heap.size w w' → MapK w' m (setF L) (setK L) := fun w' hb => ⟨hk, by
    have := hm.2
    cases m with
    | none => exact this
    | some b => exact MapC.keep this (hb.block b (MapC.lt this))⟩
  have CS : Hid (∀ w1, w1 = w.alloc (.cells #[.map m] 67) → Calls Try.prog 34 #[.func (.func 43) #[] #[.pointer (some ⟨w.heap.size, 0, none⟩)], .func (.func 36) #[] #[]] w1 fun e w' => ∃ A c ps, e = .returned (.slice A ps.length c) ∧ PRow w' A ps ∧ Ord ps (setK L) ∧ Below w.heap.size w w' ∧ (∀ g, A = some ⟨g, 0, none⟩ → w.heap.size ≤ g)) := Lib.hid fun w1 hw => by
    have hb0 : Below w.heap.size w w1 := by rw [hw]; exact (Below.refl _ w).alloc (Nat.le_refl _) _
    have hs1 : w1.heap.size = w.heap.size + 1 := by rw [hw]; simp
    have hc : BL w1 w.heap.size [.map m] 67 := by rw [hw]; exact heap_alloc_last w _
    refine (uSorted2 _ _ (enters_of Try.func43 (by kernel_rfl) rfl) (setK L) (setK L).length hn hn w1 fun w' hb => ?_).mono ?_
    · exact keys_stops Fence.wide 7 trivial rfl (by decide) w.heap.size m (setF L) (setK L) w' (by have := hb.size; omega) (bl_c0 (bl_keep hc (hb.block _ (by omega)))) (KEEP w' (hb0.trans (hb.mono (by omega))))
    · rintro e w' ⟨A, c, ps, e1, e2, e3, e4, e5⟩
      exact ⟨A, c, ps, e1, e2, e3, hb0.trans (e4.mono (by omega)), fun g e => by have := e5 g e; omega⟩
  have CK := Lib.hid (uKeys m w)
  clear h hk hn hm KEEP hl
  go_enter Try.func20, Try.ntmps20
  go_wp2_with fail
  refine CK.out.mono ?_
  rintro e w1 ⟨rfl, hw1⟩
  have C2 := Lib.hid (CS.out w1 hw1)
  clear hw1 CS CK
  go_wp2_with fail
  refine C2.out.mono ?_
  rintro e w2 ⟨A, c, ps, rfl, e2⟩
  have R := Lib.hid e2
  clear e2 C2
  go_wp2_with fail
  go_ret
  exact ⟨A, c, ps, rfl, R.out⟩
end Go.Proofs.Ytdggnmlhgglccaa
