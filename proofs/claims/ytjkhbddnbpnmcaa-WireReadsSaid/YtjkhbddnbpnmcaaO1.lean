/-
  A slice of pieces, and a slice of bytes, that came in: opened to their cells.
-/
import Derived.Test.YtjkhbddnbpnmcaaW9
import Derived.ProofKit
import Derived.OpenShut
import Derived.Laws.Cover2
import Derived.Deep.Slices
import Derived.SizedLaws
namespace Go.Proofs.Ytjkhbddnbpnmcaa
open Go.ChangeShapes Go.WideShapes Go.ChangeAt Go.RowKit Go.Deep
section
variable {H : Type} {enc' : TypeId × Value → H} {w : World} {base : Nat} {spare : Nat → Bool} {held : Bool}

theorem weights_all {P : Program} {e : TypeId} {n : Nat} : ∀ {ds : List (DataW H)} {d : DataW H}, d ∈ ds → n ∈ d.weights P e → n ∈ DataW.weightsAll P e ds
  | [], d, h, _ => by cases h
  | x :: xs, d, h, hn => by
    rw [DataW.weightsAll, List.mem_append]
    rcases List.mem_cons.1 h with rfl | h
    · exact .inl hn
    · exact .inr (weights_all h hn)

theorem open_bytes {fuel : Nat} {cs : List Value} {x : DataW H × List MemPlace} (h : DataW.trod enc' Try.prog w base spare held fuel 25 cs = some x) :
    ∃ A len cap bs, cs = [.slice A len cap] ∧ Src w A len bs ∧ Byt bs ∧ len ≤ cap ∧ cap ≤ 9223372036854775807 ∧ (A = none → cap = 0) ∧ (∀ N, (∀ n ∈ x.1.weights Try.prog 25, n ≤ N) → len ≤ N) := by
  rcases open_slice1 Try.underlying25 (by kernel_rfl) h with ⟨rfl, hx⟩ | ⟨a, l, c, m, n, V, D, Pl, rfl, hb, hl, hm, hmm, hx, hcell⟩
  · exact ⟨none, 0, 0, [], rfl, ⟨rfl, .inl rfl⟩, (fun x hx => by cases hx), Nat.le_refl _, by decide, fun _ => rfl, fun _ _ => Nat.zero_le _⟩
  · have hml : l ≤ m := by rw [hmm]; split <;> omega
    have hh : ∀ i, ∃ z : Int, i < l → w.cell? (a.add i) = some (.int .u8 z) ∧ 0 ≤ z ∧ z < 256 := by
      intro i
      by_cases hi : i < l
      · obtain ⟨e1, e2⟩ := hcell i (by omega)
        obtain ⟨z, e3, _, e4⟩ := DataW.trod_int Try.underlying5 e2
        simp only [List.cons.injEq, and_true] at e3
        rw [e3] at e1
        have e5 : 0 ≤ z ∧ z ≤ 255 := by
          have h : IntKind.u8.min ≤ z ∧ z ≤ IntKind.u8.max := by simpa [Lit.wf] using e4
          exact h
        exact ⟨z, fun _ => ⟨e1, e5.1, by omega⟩⟩
      · exact ⟨0, fun h => absurd h hi⟩
    obtain ⟨F, hF⟩ : ∃ F : Nat → Int, ∀ i, i < l → w.cell? (a.add i) = some (.int .u8 (F i)) ∧ 0 ≤ F i ∧ F i < 256 := ⟨fun i => Classical.choose (hh i), fun i => Classical.choose_spec (hh i)⟩
    have hget : ∀ i, i < l → ((List.range l).map F).getD i 0 = F i := fun i hi => by simp [List.getD, hi]
    unfold maxLen at hm
    refine ⟨some a, l, c, (List.range l).map F, rfl, ⟨by simp, ?_⟩, ?_, hl, hm, (fun e => by cases e), fun N hN => ?_⟩
    · by_cases hz : l = 0
      · exact .inl hz
      · obtain ⟨b, off, spot⟩ := a
        have h00 := (hF 0 (by omega)).1
        have hspot : spot = none := by simpa [Addr.add] using World.cell?_spot h00
        subst hspot
        refine .inr ⟨b, off, rfl, fun i hi => ?_⟩
        have ea : (⟨b, off, none⟩ : Addr).add i = ⟨b, off + i, none⟩ := by unfold Addr.add; split <;> simp_all
        rw [hget i hi, ← ea]
        exact (hF i hi).1
    · intro z hz
      simp only [List.mem_map, List.mem_range] at hz
      obtain ⟨i, hi, rfl⟩ := hz
      exact (hF i hi).2
    · rw [hx] at hN
      have := hN _ (by simp only [DataW.weights, Try.underlying25]; exact List.mem_cons_self)
      have hby : Try.prog.bytesOf 5 = 1 := by kernel_rfl
      rw [hby] at this
      simp at this
      omega

theorem open_part {fuel : Nat} {b o : Nat} {cs : List Value} {x : DataW H × List MemPlace} (h : DataW.trod enc' Try.prog w base spare held fuel 31 cs = some x) (hc : ∀ j, j < 11 → w.cell? ⟨b, o + j, none⟩ = cs[j]?) :
    ∃ p, PAt w b o p ∧ (∀ N, (∀ n ∈ x.1.weights Try.prog 31, n ≤ N) → p.len ≤ N) := by
  obtain ⟨ys, n, _, hx, hcl, hyl, hf⟩ := DataW.trod_struct Try.underlying31 h
  have h11 : cs.length = 11 := by rw [hcl]; kernel_rfl
  have k3 : Try.prog.cellsOf 3 = 1 := by kernel_rfl
  have k29 : Try.prog.cellsOf 29 = 8 := by kernel_rfl
  have k25 : Try.prog.cellsOf 25 = 1 := by kernel_rfl
  have k5 : Try.prog.cellsOf 5 = 1 := by kernel_rfl
  match cs, h11 with
  | [c0, c1, c2, c3, c4, c5, c6, c7, c8, c9, c10], _ =>
    match ys, hyl with
    | [y0, y1, y2, y3], _ =>
      have f0 : DataW.trod enc' Try.prog w base spare held n 3 (([c0, c1, c2, c3, c4, c5, c6, c7, c8, c9, c10].drop 0).take (Try.prog.cellsOf 3)) = some y0 := hf 0 _ rfl
      rw [k3] at f0
      have f1 : DataW.trod enc' Try.prog w base spare held n 3 (([c0, c1, c2, c3, c4, c5, c6, c7, c8, c9, c10].drop 1).take (Try.prog.cellsOf 3)) = some y1 := hf 1 _ rfl
      rw [k3] at f1
      have f2 : DataW.trod enc' Try.prog w base spare held n 29 (([c0, c1, c2, c3, c4, c5, c6, c7, c8, c9, c10].drop 2).take (Try.prog.cellsOf 29)) = some y2 := hf 2 _ rfl
      rw [k29] at f2
      have f3 : DataW.trod enc' Try.prog w base spare held n 25 (([c0, c1, c2, c3, c4, c5, c6, c7, c8, c9, c10].drop 10).take (Try.prog.cellsOf 25)) = some y3 := hf 3 _ rfl
      rw [k25] at f3
      obtain ⟨z0, e0, _, _⟩ := DataW.trod_int Try.underlying3 (x := y0) f0
      obtain ⟨z1, e1, _, _⟩ := DataW.trod_int Try.underlying3 (x := y1) f1
      simp at e0 e1
      obtain ⟨xs, m2, _, _, _, hxl, hi⟩ := DataW.trod_array Try.underlying29 (x := y2) f2
      obtain ⟨A, len, cap, bs, eb, hsrc, hbyt, hle, hcm, hcn, hw⟩ := open_bytes (x := y3) f3
      simp at eb
      have hh : ∀ j, j < 8 → ∃ z : Int, [c2, c3, c4, c5, c6, c7, c8, c9][j]? = some (.int .u8 z) ∧ 0 ≤ z ∧ z < 256 := by
        intro j hj
        have q := hi j hj
        rw [k5, Nat.mul_one, List.getElem?_eq_getElem (by omega)] at q
        obtain ⟨z, e, _, e4⟩ := DataW.trod_int Try.underlying5 q
        have e5 : 0 ≤ z ∧ z ≤ 255 := by
          have h : IntKind.u8.min ≤ z ∧ z ≤ IntKind.u8.max := by simpa [Lit.wf] using e4
          exact h
        refine ⟨z, ?_, by omega, by omega⟩
        match j, hj with
        | 0, _ => simpa using e
        | 1, _ => simpa using e
        | 2, _ => simpa using e
        | 3, _ => simpa using e
        | 4, _ => simpa using e
        | 5, _ => simpa using e
        | 6, _ => simpa using e
        | 7, _ => simpa using e
      obtain ⟨h0, q0, r0⟩ := hh 0 (by decide)
      obtain ⟨h1, q1, r1⟩ := hh 1 (by decide)
      obtain ⟨h2, q2, r2⟩ := hh 2 (by decide)
      obtain ⟨h3, q3, r3⟩ := hh 3 (by decide)
      obtain ⟨h4, q4, r4⟩ := hh 4 (by decide)
      obtain ⟨h5, q5, r5⟩ := hh 5 (by decide)
      obtain ⟨h6, q6, r6⟩ := hh 6 (by decide)
      obtain ⟨h7, q7, r7⟩ := hh 7 (by decide)
      simp at q0 q1 q2 q3 q4 q5 q6 q7
      subst e0 e1 eb q0 q1 q2 q3 q4 q5 q6 q7
      refine ⟨⟨z0, z1, [h0, h1, h2, h3, h4, h5, h6, h7], A, len, cap, bs⟩, ⟨hc 0 (by decide), hc 1 (by decide), fun j hj => ?_, hc 10 (by decide), rfl, hsrc, hbyt, hle, hcm, hcn, fun x hx => ?_⟩, fun N hN => hw N fun k hk => hN k ?_⟩
      · have := hc (2 + j) (by omega)
        match j, hj with
        | 0, _ => exact this
        | 1, _ => exact this
        | 2, _ => exact this
        | 3, _ => exact this
        | 4, _ => exact this
        | 5, _ => exact this
        | 6, _ => exact this
        | 7, _ => exact this
      · simp only [List.mem_cons, List.not_mem_nil, or_false] at hx
        rcases hx with rfl | rfl | rfl | rfl | rfl | rfl | rfl | rfl <;> assumption
      · rw [hx]
        simp only [DataW.weights, Try.underlying31]
        exact DataW.weights_mem_each (j := 3) rfl rfl k hk

theorem open_parts {fuel : Nat} {cs : List Value} {x : DataW H × List MemPlace} (h : DataW.trod enc' Try.prog w base spare held fuel 22 cs = some x) :
    ∃ (A : Option Addr) (len cap : Nat) (P : Nat → Prt), cs = [.slice A len cap] ∧ (len = 0 ∨ ∃ b off, A = some ⟨b, off, none⟩ ∧ ∀ i, i < len → PAt w b (off + i * 11) (P i)) ∧ len ≤ cap ∧ cap ≤ 9223372036854775807 ∧ (∀ N, (∀ n ∈ x.1.weights Try.prog 22, n ≤ N) → len ≤ N ∧ ∀ i, i < len → (P i).len ≤ N) := by
  have k31 : Try.prog.cellsOf 31 = 11 := by kernel_rfl
  rcases open_slice Try.underlying22 h with ⟨rfl, hx⟩ | ⟨a, l, c, m, n, D, Pl, rfl, hb, hl, hm, hmm, hx, hcell⟩
  · exact ⟨none, 0, 0, fun _ => ⟨0, 0, [], none, 0, 0, []⟩, rfl, .inl rfl, Nat.le_refl _, by decide, fun N _ => ⟨Nat.zero_le _, fun i hi => by omega⟩⟩
  · have hml : l ≤ m := by rw [hmm]; split <;> omega
    unfold maxLen at hm
    by_cases hz : l = 0
    · subst hz
      exact ⟨some a, 0, c, fun _ => ⟨0, 0, [], none, 0, 0, []⟩, rfl, .inl rfl, hl, hm, fun N _ => ⟨Nat.zero_le _, fun i hi => by omega⟩⟩
    · obtain ⟨b, off, spot⟩ := a
      have hspot : spot = none := by
        obtain ⟨cs', h1, h2⟩ := hcell 0 (by omega)
        obtain ⟨_, _, h3⟩ := World.cells?_some h1
        obtain ⟨_, _, _, _, hcl, _⟩ := DataW.trod_struct Try.underlying31 h2
        have h4 := h3 0 (by rw [k31]; decide)
        rw [List.getElem?_eq_getElem (by rw [hcl, k31]; decide)] at h4
        simpa [Addr.add] using World.cell?_spot h4
      subst hspot
      have ea : ∀ i, (⟨b, off, none⟩ : Addr).add i = ⟨b, off + i, none⟩ := fun i => by unfold Addr.add; split <;> simp_all
      have ea2 : ∀ o i, (⟨b, o, none⟩ : Addr).add i = ⟨b, o + i, none⟩ := fun o i => by unfold Addr.add; split <;> simp_all
      have hh : ∀ i, ∃ p, i < l → PAt w b (off + i * 11) p ∧ (∀ N, (∀ n ∈ (D i).weights Try.prog 31, n ≤ N) → p.len ≤ N) := by
        intro i
        by_cases hi : i < l
        · obtain ⟨cs', h1, h2⟩ := hcell i (by omega)
          obtain ⟨_, _, h3⟩ := World.cells?_some h1
          rw [k31] at h3
          obtain ⟨p, hp, hw⟩ := open_part (b := b) (o := off + i * 11) h2 (fun j hj => by
            have := h3 j hj
            rwa [ea, ea2] at this)
          exact ⟨p, fun _ => ⟨hp, hw⟩⟩
        · exact ⟨⟨0, 0, [], none, 0, 0, []⟩, fun h => absurd h hi⟩
      refine ⟨some ⟨b, off, none⟩, l, c, fun i => Classical.choose (hh i), rfl, .inr ⟨b, off, rfl, fun i hi => (Classical.choose_spec (hh i) hi).1⟩, hl, hm, fun N hN => ⟨?_, fun i hi => (Classical.choose_spec (hh i) hi).2 N fun k hk => hN k ?_⟩⟩
      · rw [hx] at hN
        have := hN _ (by simp only [DataW.weights, Try.underlying22]; exact List.mem_cons_self)
        have hby : Try.prog.bytesOf 31 = 48 := by kernel_rfl
        rw [hby] at this
        simp at this
        omega
      · rw [hx]
        simp only [DataW.weights, Try.underlying22]
        refine List.mem_cons_of_mem _ (List.mem_append_left _ (weights_all (d := D i) ?_ hk))
        simp only [List.mem_map, List.mem_range]
        exact ⟨i, hi, rfl⟩
end
end Go.Proofs.Ytjkhbddnbpnmcaa
