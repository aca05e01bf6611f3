/-
  Joined: U52, U53a, U53, U54.
-/
import Derived.Test.YtdggnmlhgglccaaU45a
import Derived.Shelf.SlMaps.Clone
import Derived.Test.YtdggnmlhgglccaaU35a
import Derived.Test.YtdggnmlhgglccaaVA
import Derived.Test.YtdggnmlhgglccaaU37b
import Derived.Test.YtdggnmlhgglccaaU20
/-
  A Set's copy.
-/
namespace Go.Proofs.Ytdggnmlhgglccaa
open Go.RowKit Go.Maps
set_option maxRecDepth 100000
theorem wpList_appG {sl t : TypeId} {z : Value} {sz by' : Nat} (hu : Try.prog.underlying sl = some (.slice t)) (hi : (Try.prog.info? t).map (fun i => (i.zero, i.size, i.bytes)) = some (some z, sz, by')) (hz : z.cells.size = sz) (h0 : 0 < sz) (hb : by' ≤ 1000)
    {w : World} {ops : Array Oper} {rest : List Oper} {o : Oper} {a : Act} {Q : Exit → Act → World → Prop} (hgd : o.guard = none) (s y : Operand)
    (ho : o.op = .call { callee := .builtin .append, args := #[s, y], argTypes := #[sl, sl] }) (base n m c : Nat) (v : Value) (xs ys : List Value) (B : Option Addr) (hv : a.eval s = v) (hx : a.eval y = .slice B m c) (hown : w.ownsRow base t sz v n xs) (hs : SrcG w sz B m ys) (hn : n ≤ 100000) (hm : m ≤ 100000) (hbase : base ≤ w.heap.size)
    (h : ∀ A c' w', w'.ownsRow base t sz (.slice A (n + m) c') (n + m) (xs ++ ys) → Below base w w' → wpList Try.prog ops Q rest (a.put o.dst (.slice A (n + m) c')) w') : wpList Try.prog ops Q (o :: rest) a w := by
  refine wpList_plain hgd fun K hK => ?_
  obtain ⟨A, c', w', hr, h1, h2⟩ := run_appG (c := c) hu hi hz h0 hb hown hs hn hm hbase o.type
  unfold Oper.wp execOp
  simp only [ho, resolve, invoke, builtin, Sem.run_bind, Sem.run_pure, Result.andThen_ok, List.map_toArray, List.map_cons, List.map_nil, hv, hx, hr]
  exact hK _ _ (h A c' w' h1 h2)
theorem own_noneG (w : World) (t : TypeId) (sz : Nat) : (w.alloc (Obj.cells #[] t)).ownsRow w.heap.size t sz (.slice (some ⟨w.heap.size, 0, none⟩) 0 0) 0 [] :=
  ⟨by simp, .inr ⟨w.heap.size, 0, #[], rfl, Nat.le_refl _, heap_alloc_new w _, Nat.le_refl _, Nat.zero_le _, by simp, by simp⟩⟩
theorem stV_one (x : Stp) : ∀ v ∈ stV x, v.oneCell' = true := by
  intro v hv
  unfold stV at hv
  rcases List.mem_append.1 hv with h | h
  · exact vals_one _ _ v h
  · rcases List.mem_append.1 h with h | h
    · unfold cnV at h
      rcases List.mem_append.1 h with h | h
      · exact vals_one _ _ v h
      · rw [List.mem_singleton.1 h]; rfl
    · rw [List.mem_singleton.1 h]; rfl
theorem rowV_one (L : List Stp) : ∀ v ∈ rowV L, v.oneCell' = true := by
  intro v hv
  unfold rowV at hv
  obtain ⟨l, hl, hv⟩ := List.mem_flatten.1 hv
  obtain ⟨x, _, rfl⟩ := List.mem_map.1 hl
  exact stV_one x v hv
theorem szS75 : (Value.agg (stV st0).toArray).cells.size = 21 := by kernel_rfl
set_option maxHeartbeats 4000000 in
theorem cloneS (A : Option Addr) (n c : Nat) (ys : List Value) (w : World) (h : w.ownsRow 0 75 21 (.slice A n c) n ys) (h1 : ∀ u ∈ ys, u.oneCell' = true) (hn : n ≤ 1000) :
    Calls Try.prog 33 #[.slice A n c] w fun e w' => ∃ A' c', e = .returned (.slice A' n c') ∧ w'.ownsRow w.heap.size 75 21 (.slice A' n c') n ys ∧ Below w.heap.size w w' := by
  cases A with
  | none =>
    obtain ⟨e1, e2⟩ := own_nil h
    subst e1 e2
    have h3 : ys = [] := List.eq_nil_of_length_eq_zero (by have := h.1; omega)
    subst h3
    have hnil : ∀ w : World, (binOp BinOp.eql 68 (.slice none 0 0) (.slice none 0 0)).run Try.prog w = .ok (.bool true) w := fun _ => by kernel_rfl
    clear h
    go_enter Try.func33, Try.ntmps33
    go_wp2
    go_ret
    exact ⟨none, 0, rfl, World.ownsRow_nil _ _ _ _, Below.refl _ _⟩
  | some ad =>
    have hnil : ∀ w : World, (binOp BinOp.eql 68 (.slice (some ad) n c) (.slice none 0 0)).run Try.prog w = .ok (.bool false) w := fun _ => rfl
    have b0 : Below w.heap.size w (w.alloc (Obj.cells #[] 75)) := (Below.refl _ w).alloc (Nat.le_refl _) _
    have B0 := Lib.hid b0
    have HS : Hid (SrcG (w.alloc (Obj.cells #[] 75)) 21 (some ad) n ys) := Lib.hid (by
      refine SrcG.keep ⟨h.1, h1, ?_⟩ b0
      rcases own_addr h with ⟨e, _⟩ | ⟨g, e⟩
      · cases e
      · cases e
        exact .inr ⟨g, 0, rfl, (ownG_rng h).1, (ownG_rng h).2.2⟩)
    have HN := Lib.hid hn
    clear h h1 hn b0
    go_enter Try.func33, Try.ntmps33
    go_wp2_with (at_builtin; refine wpList_appG Try.underlying68 infoS szS75 (by decide) (by decide) rfl (.tmp 5) (.tmp 6) rfl w.heap.size 0 n c (.slice (some ⟨w.heap.size, 0, none⟩) 0 0) [] ys (some ad) rfl rfl (own_noneG w 75 21) HS.out (by omega) (by have := HN.out; omega) (by simp) ?_; intro A2 c2 w2 hown2 hb2; rw [Nat.zero_add, List.nil_append] at hown2; have O2 := Lib.hid hown2; have B2 := Lib.hid hb2; clear hown2 hb2)
    go_ret
    exact ⟨A2, c2, by first | rfl | (simp; done), O2.out, B0.out.trans B2.out⟩
def laysC_ren : Go.Shelf.Ren := ⟨fun | 5 => 32 | 7 => 40 | n => n, fun | 4 => 4 | 20 => 20 | 23 => 67 | 25 => 38 | 3 => 47 | n => n, fun | n => n⟩
theorem laysC : Go.Proofs.SlLaysW.n5 Try.prog laysC_ren := {
  mixed := by kernel_rfl
  f5 := ⟨"maps.Clone[map[drawbridge/api.Point]drawbridge/utxo.Coin,drawbridge/api.Point,drawbridge/utxo.Coin]", by kernel_rfl, Try.func32.trans (congrArg some (by kernel_rfl))⟩
  f7 := Try.func40.trans (congrArg some (by kernel_rfl))
  t4 := Try.underlying4
  a4 := Try.isAgg4
  z4 := Try.sizeOf4
  v4 := Try.zeroValue4
  t20 := Try.underlying20
  a20 := Try.isAgg20
  z20 := Try.sizeOf20
  v20 := Try.zeroValue20
  t23 := Try.underlying67
  a23 := Try.isAgg67
  z23 := Try.sizeOf67
  v23 := Try.zeroValue67 }
/-- the map of a Set, copied -/
theorem cloneC (m : Option Nat) (L : List Stp) (P : Nat → Prop) (w : World) (h : mapOk w L P m) :
    Calls Try.prog 32 #[.map m] w fun e w' => ∃ m', e = .returned (.map m') ∧ (mapOk w' L (fun q => m' = some q) m') ∧ Below w.heap.size w w' ∧ ∀ b, m' = some b → w.heap.size ≤ b := by
  cases m with
  | none =>
    refine (AnyW.maps_Clone_nil laysC w).mono ?_
    rintro e w' ⟨rfl, rfl⟩
    exact ⟨none, rfl, h, Below.refl _ _, fun b e => (by cases e)⟩
  | some b =>
    obtain ⟨⟨D, h1, h2⟩, _⟩ := h
    refine (AnyW.maps_Clone_owns laysC 38 cnR b (setN L) D w h1).mono ?_
    rintro e w' ⟨rfl, r1, r2, r3⟩
    exact ⟨some w.heap.size, rfl, ⟨⟨D, r1, h2⟩, rfl⟩, r3, fun b e => (by cases e; exact Nat.le_refl _)⟩
theorem mapOk.keep2 {w w' : World} {L : List Stp} {P P' : Nat → Prop} {m : Option Nat} (h : mapOk w L P m) (hb : ∀ b, m = some b → w'.heap[b]? = w.heap[b]? ∧ P' b) : mapOk w' L P' m := by
  cases m with
  | none => exact h
  | some b => exact ⟨MapC.keep h.1 (hb b rfl).1, (hb b rfl).2⟩
theorem mapOk.lt {w : World} {L : List Stp} {P : Nat → Prop} {m : Option Nat} (h : mapOk w L P m) : ∀ b, m = some b → b < w.heap.size := by
  rintro b rfl
  exact MapC.lt h.1
attribute [local irreducible] ptV cnV zeros MapC stV rowV mapOk
set_option maxHeartbeats 4000000 in
theorem uCopy (S : Nat) (L : List Stp) (P : Nat → Prop) (w : World) (h : SetIs w S L P) (hl : L.length ≤ 1000) :
    Calls Try.prog 19 #[.pointer (some ⟨S, 0, none⟩)] w fun e w' => ∃ S' P', e = .returned (.pointer (some ⟨S', 0, none⟩)) ∧ SetIs w' S' L P' ∧ Below w.heap.size w w' ∧ ∀ q, P' q → w.heap.size ≤ q := by
  obtain ⟨m, A, c, h⟩ := h
  obtain ⟨Z, hZ⟩ : ∃ Z, w.heap.size = Z := ⟨_, rfl⟩
  have HZ := Lib.hid hZ
  have HA := Lib.hid h
  have B0 : Hid (Below Z w w) := Lib.hid (Below.refl _ _)
  have gr : ∀ W, Below Z w W → SetAt W S L L P m A c := fun W hb => h.keep (fun q hq => hb.block q (by rw [← hZ]; exact h.lt q hq)) (by have := hb.size; rw [hZ]; omega)
  have C0 : ∀ W, Below Z w W → W.cell? ⟨S, 0, none⟩ = some (.map m) := fun W hb => (gr W hb).c0
  have C1 : ∀ W, Below Z w W → W.cell? ⟨S, 1, none⟩ = some (.int .i64 (setT L)) := fun W hb => (gr W hb).c1
  have C2 : ∀ W, Below Z w W → W.cell? ⟨S, 2, none⟩ = some (.slice A L.length c) := fun W hb => (gr W hb).c2
  have B1z : ∀ {W : World}, Below Z w W → Z ≤ W.heap.size := fun hb => by have := hb.size; omega
  have CM : Hid (∀ W, Below Z w W → Calls Try.prog 32 #[.map m] W fun e w' => ∃ m', e = .returned (.map m') ∧ mapOk w' L (fun q => m' = some q) m' ∧ Below Z W w' ∧ ∀ b, m' = some b → Z ≤ b) := Lib.hid fun W hb => by
    refine (cloneC m L P W (gr W hb).map).mono ?_
    rintro e w' ⟨m', k1, k2, k3, k4⟩
    exact ⟨m', k1, k2, k3.mono (B1z hb), fun b e => Nat.le_trans (B1z hb) (k4 b e)⟩
  have CS : Hid (∀ W, Below Z w W → Calls Try.prog 33 #[.slice A L.length c] W fun e w' => ∃ A' c', e = .returned (.slice A' L.length c') ∧ w'.ownsRow W.heap.size 75 21 (.slice A' L.length c') L.length (rowV L) ∧ Below W.heap.size W w') := Lib.hid fun W hb => cloneS A L.length c (rowV L) W (gr W hb).row (rowV_one L) hl
  clear h gr hl hZ
  go_enter Try.func19, Try.ntmps19
  go_upto_region 3 with (fail)
  refine wp_region_held_drew (S := fun W : World => Below Z w W) (by kernel_rfl) (B0.out.drew) (fun hHeld => ?_)
  refine wpAnyH_take (i := 0) (v := ?_) rfl (by kernel_rfl) (by kernel_rfl) (by kernel_rfl) (fun _ _ _ h => h) (Or.inl ⟨by rfl, ?_⟩) (by assumption) ?_
  rotate_left
  · (intro w hSw; (try dsimp only at hSw); go_simp; try with_reducible rfl)
  simp only [Act.put, List.getElem_toArray, List.getElem_cons_zero, List.setIfInBounds_toArray, List.set_cons_zero, List.set_cons_succ]
  refine wpAnyH_take (i := 1) (v := ?_) rfl (by kernel_rfl) (by kernel_rfl) (by kernel_rfl) (fun _ _ _ h => h) (Or.inl ⟨by rfl, ?_⟩) (by assumption) ?_
  rotate_left
  · (intro w hSw; (try dsimp only at hSw); go_simp; try with_reducible rfl)
  simp only [Act.put, List.getElem_toArray, List.getElem_cons_succ, List.getElem_cons_zero, List.setIfInBounds_toArray, List.set_cons_zero, List.set_cons_succ]
  refine wpAnyH_take (i := 2) (v := ?_) rfl (by kernel_rfl) (by kernel_rfl) (by kernel_rfl) (fun _ _ _ h => h) (Or.inl ⟨by rfl, ?_⟩) (by assumption) ?_
  rotate_left
  · (intro w hSw; (try dsimp only at hSw); go_simp; try with_reducible rfl)
  simp only [Act.put, List.getElem_toArray, List.getElem_cons_succ, List.getElem_cons_zero, List.setIfInBounds_toArray, List.set_cons_zero, List.set_cons_succ]
  refine wpAnyH_take (i := 3) (v := ?_) rfl (by kernel_rfl) (by kernel_rfl) (by kernel_rfl) (fun _ _ _ h => h) (Or.inl ⟨by rfl, ?_⟩) (by assumption) ?_
  rotate_left
  · (intro w hSw; have z := C0 w hSw; go_simp; try with_reducible rfl)
  simp only [Act.put, List.getElem_toArray, List.getElem_cons_succ, List.getElem_cons_zero, List.setIfInBounds_toArray, List.set_cons_zero, List.set_cons_succ]
  refine wpAnyH_take (i := 5) (v := ?_) rfl (by kernel_rfl) (by kernel_rfl) (by kernel_rfl) (fun _ _ _ h => h) (Or.inl ⟨by rfl, ?_⟩) (by assumption) ?_
  rotate_left
  · (intro w hSw; (try dsimp only at hSw); go_simp; try with_reducible rfl)
  simp only [Act.put, List.getElem_toArray, List.getElem_cons_succ, List.getElem_cons_zero, List.setIfInBounds_toArray, List.set_cons_zero, List.set_cons_succ]
  refine wpAnyH_take (i := 6) (v := ?_) rfl (by kernel_rfl) (by kernel_rfl) (by kernel_rfl) (fun _ _ _ h => h) (Or.inl ⟨by rfl, ?_⟩) (by assumption) ?_
  rotate_left
  · (intro w hSw; (try dsimp only at hSw); go_simp; try with_reducible rfl)
  simp only [Act.put, List.getElem_toArray, List.getElem_cons_succ, List.getElem_cons_zero, List.setIfInBounds_toArray, List.set_cons_zero, List.set_cons_succ]
  refine wpAnyH_take (i := 7) (v := ?_) rfl (by kernel_rfl) (by kernel_rfl) (by kernel_rfl) (fun _ _ _ h => h) (Or.inl ⟨by rfl, ?_⟩) (by assumption) ?_
  rotate_left
  · (intro w hSw; (try dsimp only at hSw); go_simp; try with_reducible rfl)
  simp only [Act.put, List.getElem_toArray, List.getElem_cons_succ, List.getElem_cons_zero, List.setIfInBounds_toArray, List.set_cons_zero, List.set_cons_succ]
  refine wpAnyH_take (i := 8) (v := ?_) rfl (by kernel_rfl) (by kernel_rfl) (by kernel_rfl) (fun _ _ _ h => h) (Or.inl ⟨by rfl, ?_⟩) (by assumption) ?_
  rotate_left
  · (intro w hSw; have z := C1 w hSw; go_simp; try with_reducible rfl)
  simp only [Act.put, List.getElem_toArray, List.getElem_cons_succ, List.getElem_cons_zero, List.setIfInBounds_toArray, List.set_cons_zero, List.set_cons_succ]
  refine wpAnyH_take (i := 9) (v := ?_) rfl (by kernel_rfl) (by kernel_rfl) (by kernel_rfl) (fun _ _ _ h => h) (Or.inl ⟨by rfl, ?_⟩) (by assumption) ?_
  rotate_left
  · (intro w hSw; (try dsimp only at hSw); go_simp; try with_reducible rfl)
  simp only [Act.put, List.getElem_toArray, List.getElem_cons_succ, List.getElem_cons_zero, List.setIfInBounds_toArray, List.set_cons_zero, List.set_cons_succ]
  refine wpAnyH_take (i := 10) (v := ?_) rfl (by kernel_rfl) (by kernel_rfl) (by kernel_rfl) (fun _ _ _ h => h) (Or.inl ⟨by rfl, ?_⟩) (by assumption) ?_
  rotate_left
  · (intro w hSw; (try dsimp only at hSw); go_simp; try with_reducible rfl)
  simp only [Act.put, List.getElem_toArray, List.getElem_cons_succ, List.getElem_cons_zero, List.setIfInBounds_toArray, List.set_cons_zero, List.set_cons_succ]
  refine wpAnyH_take (i := 11) (v := ?_) rfl (by kernel_rfl) (by kernel_rfl) (by kernel_rfl) (fun _ _ _ h => h) (Or.inl ⟨by rfl, ?_⟩) (by assumption) ?_
  rotate_left
  · (intro w hSw; (try dsimp only at hSw); go_simp; try with_reducible rfl)
  simp only [Act.put, List.getElem_toArray, List.getElem_cons_succ, List.getElem_cons_zero, List.setIfInBounds_toArray, List.set_cons_zero, List.set_cons_succ]
  refine wpAnyH_take (i := 12) (v := ?_) rfl (by kernel_rfl) (by kernel_rfl) (by kernel_rfl) (fun _ _ _ h => h) (Or.inl ⟨by rfl, ?_⟩) (by assumption) ?_
  rotate_left
  · (intro w hSw; have z := C2 w hSw; go_simp; try with_reducible rfl)
  simp only [Act.put, List.getElem_toArray, List.getElem_cons_succ, List.getElem_cons_zero, List.setIfInBounds_toArray, List.set_cons_zero, List.set_cons_succ]
  refine wpAnyH_ready (rs := [4]) (by kernel_rfl) (by simp) ?_
  refine AllReadyH.cons rfl (fun K hK => ?_) AllReadyH.nil
  go_simp
  go_at_call 32
  refine (CM.out _ (B0.out.drew)).mono ?_
  rintro e w1 ⟨m', rfl, k1, k2, k3⟩
  have K1 := Lib.hid k1
  have B1 : Hid (Below Z w w1) := Lib.hid (B0.out.drew.trans k2)
  have K3 := Lib.hid k3
  clear k1 k2 k3 CM
  (try go_wp2_with fail)
  refine hK.out _ _ B1.out (fun hHeld => ?_)
  clear hK K
  (try simp only [Act.put, List.getElem_toArray, List.getElem_cons_succ, List.getElem_cons_zero, List.setIfInBounds_toArray, List.set_cons_zero, List.set_cons_succ])
  refine wpAnyH_ready (rs := [13]) (by kernel_rfl) (by simp) ?_
  refine AllReadyH.cons rfl (fun K hK => ?_) AllReadyH.nil
  go_simp
  go_at_call 33
  refine (CS.out _ B1.out).mono ?_
  rintro e w2 ⟨A', c', rfl, k1, k2⟩
  have O2 := Lib.hid k1
  have B12 := Lib.hid k2
  have B2 : Hid (Below Z w w2) := Lib.hid (B1.out.trans (k2.mono (B1z B1.out)))
  clear k1 k2 CS
  (try go_wp2_with fail)
  refine hK.out _ _ B2.out (fun hHeld => ?_)
  clear hK K
  (try simp only [Act.put, List.getElem_toArray, List.getElem_cons_succ, List.getElem_cons_zero, List.setIfInBounds_toArray, List.set_cons_zero, List.set_cons_succ])
  refine wpAnyH_take (i := 14) (v := ?_) rfl (by kernel_rfl) (by kernel_rfl) (by kernel_rfl) (fun _ _ _ h => h) (Or.inl ⟨by rfl, ?_⟩) (by assumption) ?_
  rotate_left
  · (intro w hSw; (try dsimp only at hSw); go_simp; try with_reducible rfl)
  simp only [Act.put, List.getElem_toArray, List.getElem_cons_succ, List.getElem_cons_zero, List.setIfInBounds_toArray, List.set_cons_zero, List.set_cons_succ]
  refine wpAnyH_ready (rs := [15]) (by kernel_rfl) (by simp) ?_
  refine AllReadyH.cons rfl (fun K hK => ?_) AllReadyH.nil
  go_simp
  have B3 : Hid (Below Z w (w2.alloc (Obj.cells #[.map m', .int .i64 (setT L), .slice A' L.length c'] 70))) := Lib.hid (B2.out.alloc (B1z B2.out) _)
  refine hK.out _ _ B3.out (fun hHeld => ?_)
  clear hK K
  (try simp only [Act.put, List.getElem_toArray, List.getElem_cons_succ, List.getElem_cons_zero, List.setIfInBounds_toArray, List.set_cons_zero, List.set_cons_succ])
  refine wpAnyH_take (i := 16) (v := ?_) rfl (by kernel_rfl) (by kernel_rfl) (by kernel_rfl) (fun _ _ _ h => h) (Or.inl ⟨by rfl, ?_⟩) (by assumption) ?_
  rotate_left
  · (intro w hSw; (try dsimp only at hSw); go_simp; try with_reducible rfl)
  simp only [Act.put, List.getElem_toArray, List.getElem_cons_succ, List.getElem_cons_zero, List.setIfInBounds_toArray, List.set_cons_zero, List.set_cons_succ]
  clear hHeld
  refine wpAnyH_done (by kernel_rfl) ?_ _
  clear C0 C1 C2
  go_wp2
  go_ret
  have b3 : Below w2.heap.size w2 (w2.alloc (Obj.cells #[.map m', .int .i64 (setT L), .slice A' L.length c'] 70)) := (Below.refl _ w2).alloc (Nat.le_refl _) _
  have z1 := B1z B1.out
  have z2 := B1z B2.out
  have z12 := B12.out.size
  have hm1 := K1.out.lt
  refine ⟨w2.heap.size, fun q => q = w2.heap.size ∨ m' = some q ∨ (Value.slice A' L.length c').ownBlock = some q, rfl, ⟨m', A', c', heap_alloc_last w2 _, ?_, ?_, fun q hq => .inr (.inr hq), HA.out.ok, .inl rfl, ?_⟩, by rw [HZ.out]; exact B3.out, ?_⟩
  · exact K1.out.keep2 fun b e => ⟨(b3.block b (Nat.lt_of_lt_of_le (hm1 b e) z12)).trans (B12.out.block b (hm1 b e)), .inr (.inl e)⟩
  · exact row_keepO (own_le O2.out (Nat.zero_le _)) fun g hg => b3.block g (own_blk O2.out hg).2
  · have z3 := b3.size
    have hs : (w2.alloc (Obj.cells #[.map m', .int .i64 (setT L), .slice A' L.length c'] 70)).heap.size = w2.heap.size + 1 := by rw [World.size_alloc]
    rintro q (rfl | e | e)
    · omega
    · have := hm1 q e; omega
    · have := (own_blk O2.out e).2; omega
  · rw [HZ.out]
    rintro q (rfl | e | e)
    · exact z2
    · exact K3.out q e
    · have := (own_blk O2.out e).1; omega
end Go.Proofs.Ytdggnmlhgglccaa

/-
  A coin is the same as itself.
-/
namespace Go.Proofs.Ytdggnmlhgglccaa
open Go.RowKit
set_option maxRecDepth 100000
theorem eq_bool (d : Nat) (a : Bool) (w : World) : (Op.equalIn (d + 1) 4 (.bool a) (.bool a)).run Try.prog w = .ok true w := by
  have hu : Try.prog.underlying 4 = some .bool := by kernel_rfl
  rw [Op.equalIn]
  simp [run_underlying hu]
theorem part_bool (cs : List Value) (i : Nat) (v : Value) (h : cs[i]? = some v) (w : World) : (part 4 cs.toArray i).run Try.prog w = .ok v w := by
  have hu : Try.prog.underlying 4 = some .bool := by kernel_rfl
  simp [part, isAgg, run_underlying hu, Result.andThen, h]
theorem eq_out (d : Nat) (x : List Int) (hx : x.length = 8) (a : Int) (w : World) : (Op.equalIn (d + 3) 40 (.agg (bvals x ++ [Value.int .i64 a]).toArray) (.agg (bvals x ++ [Value.int .i64 a]).toArray)).run Try.prog w = .ok true w := by
  have p0 : ∀ (w : World), (part 36 (bvals x ++ [Value.int .i64 a]).toArray 0).run Try.prog w = .ok (.agg (bvals x).toArray) w := fun w => by
    rw [part_agg Try.underlying36 rfl (fun w => Try.sizeOf36 w), List.drop_zero, List.take_left' (by rw [bv_len, hx])]
  have p1 : ∀ (w : World), (part 3 (bvals x ++ [Value.int .i64 a]).toArray 8).run Try.prog w = .ok (.int .i64 a) w := fun w => part_int _ 8 _ (by rw [List.getElem?_append_right (by rw [bv_len, hx]; omega), bv_len, hx]; rfl) w
  have hs : Try.prog.stoodInHeld 40 = false := by kernel_rfl
  rw [eq_str Try.underlying40 hs (by simp) _ _ (fun f => if f.offset = 0 then .agg (bvals x).toArray else .int .i64 a) (fun f => if f.offset = 0 then .agg (bvals x).toArray else .int .i64 a) (fun _ => true)]
  · rfl
  · intro f hf w
    simp only [List.mem_cons, List.not_mem_nil, or_false] at hf
    rcases hf with rfl | rfl
    · exact p0 w
    · exact p1 w
  · intro f hf w
    simp only [List.mem_cons, List.not_mem_nil, or_false] at hf
    rcases hf with rfl | rfl
    · exact p0 w
    · exact p1 w
  · intro f hf w
    simp only [List.mem_cons, List.not_mem_nil, or_false] at hf
    rcases hf with rfl | rfl
    · have := eq_hash d x x hx hx w
      rw [decide_eq_true rfl] at this
      exact this
    · have := eq_int (d + 1) a a w
      rw [beq_self_eq_true] at this
      exact this
theorem eq_cn (c : Cn) (h : c.r.length = 10) (w : World) : (Op.equalIn 10000 47 (.agg (cnV c).toArray) (.agg (cnV c).toArray)).run Try.prog w = .ok true w := by
  obtain ⟨r, b⟩ := c
  have hl : (seg r 0 8).length = 8 := seg_len (by rw [show r.length = 10 from h]; omega)
  have hc : cnV ⟨r, b⟩ = (bvals (seg r 0 8) ++ [Value.int .i64 (cel r 8)]) ++ [Value.int .i64 (cel r 9), .bool b] := by
    match r, h with
    | [x0, x1, x2, x3, x4, x5, x6, x7, x8, x9], _ => rfl
  have l9 : (bvals (seg r 0 8) ++ [Value.int .i64 (cel r 8)]).length = 9 := by rw [List.length_append, bv_len, hl]; rfl
  rw [hc]
  generalize seg r 0 8 = x at *
  generalize cel r 8 = y at *
  generalize cel r 9 = z at *
  have p0 : ∀ (w : World), (part 40 ((bvals x ++ [Value.int .i64 y]) ++ [Value.int .i64 z, .bool b]).toArray 0).run Try.prog w = .ok (.agg (bvals x ++ [Value.int .i64 y]).toArray) w := fun w => by
    rw [part_agg Try.underlying40 rfl (fun w => Try.sizeOf40 w), List.drop_zero, List.take_left' l9]
  have p1 : ∀ (w : World), (part 3 ((bvals x ++ [Value.int .i64 y]) ++ [Value.int .i64 z, .bool b]).toArray 9).run Try.prog w = .ok (.int .i64 z) w := fun w => part_int _ 9 _ (by rw [List.getElem?_append_right (by omega), l9]; rfl) w
  have p2 : ∀ (w : World), (part 4 ((bvals x ++ [Value.int .i64 y]) ++ [Value.int .i64 z, .bool b]).toArray 10).run Try.prog w = .ok (.bool b) w := fun w => part_bool _ 10 _ (by rw [List.getElem?_append_right (by omega), l9]; rfl) w
  have hs : Try.prog.stoodInHeld 47 = false := by kernel_rfl
  rw [eq_str Try.underlying47 hs (by simp) _ _ (fun f => if f.offset = 0 then .agg (bvals x ++ [Value.int .i64 y]).toArray else if f.offset = 9 then .int .i64 z else .bool b) (fun f => if f.offset = 0 then .agg (bvals x ++ [Value.int .i64 y]).toArray else if f.offset = 9 then .int .i64 z else .bool b) (fun _ => true)]
  · rfl
  · intro f hf w
    simp only [List.mem_cons, List.not_mem_nil, or_false] at hf
    rcases hf with rfl | rfl | rfl
    · exact p0 w
    · exact p1 w
    · exact p2 w
  · intro f hf w
    simp only [List.mem_cons, List.not_mem_nil, or_false] at hf
    rcases hf with rfl | rfl | rfl
    · exact p0 w
    · exact p1 w
    · exact p2 w
  · intro f hf w
    simp only [List.mem_cons, List.not_mem_nil, or_false] at hf
    rcases hf with rfl | rfl | rfl
    · exact eq_out 9996 x hl y w
    · have := eq_int 9998 z z w
      rw [beq_self_eq_true] at this
      exact this
    · exact eq_bool 9998 b w
end Go.Proofs.Ytdggnmlhgglccaa

/-
  A Set and Coins that hold the same are told to be the same.
-/
namespace Go.Proofs.Ytdggnmlhgglccaa
open Go.RowKit
set_option maxRecDepth 100000
theorem quiet_skip {ops : Array Oper} {o : Oper} {a : Act} {K : Act → Prop} {E : Prop} (hw : Region.wanted o (yielded ops a.tmps) = false) (hK : K (a.put o.dst undef)) : if Region.wanted o (yielded ops a.tmps) = true then E else K (a.put o.dst undef) := by
  rw [if_neg (by rw [hw]; decide)]
  exact hK
theorem exec_neq {o : Oper} {a : Act} {w : World} (t u : TypeId) (x y : Operand) (xs ys : Array Value) (b : Bool) (ho : o.op = .binOp .neq t x y u) (hx : a.eval x = .agg xs) (hy : a.eval y = .agg ys) (hm : Try.prog.eqGuardType Try.prog.depth t = false) (hz : (Op.equalIn 10000 t (.agg xs) (.agg ys)).run Try.prog w = .ok b w) : (execOp a.eval o).run Try.prog w = .ok (.value (.bool (!b))) w := by
  unfold execOp
  simp only [ho, hx, hy, Sem.run_bind, run_eqGuard_agg _ _ _ _ _ _ _ hm, Result.andThen_ok, run_neq_struct, hz, Sem.run_pure]
theorem eq_cnV (c : Cn) (h : c.r.length = 10) (w : World) : (Op.equalIn 10000 47 (.agg (cnV c).toArray) (.agg (cnV c).toArray)).run Try.prog w = .ok true w := eq_cn c h w
theorem CoIs.blkc {w : World} {B : Nat} {ps : List (List Int)} {cs : List Cn} {Q : Nat → Prop} (h : CoIs w B ps cs Q) : ∃ A A2 c c2, CoAt w B ps cs Q A A2 c c2 := h
attribute [local irreducible] ptV cnV zeros MapC stV ptsV csV wpQuiet
set_option maxHeartbeats 8000000 in
theorem uSame (S B : Nat) (L : List Stp) (P Q : Nat → Prop) (ps : List (List Int)) (cs : List Cn) (w : World) (h : SetIs w S L P) (d : CoIs w B ps cs Q) (hf : Fine cs) (t : Twin L ps cs) (hl : L.length ≤ 1000) :
    Calls Try.prog 17 #[.pointer (some ⟨S, 0, none⟩), .pointer (some ⟨B, 0, none⟩)] w fun e w' => e = .returned (.bool true) ∧ Below w.heap.size w w' := by
  have okL := h.okL
  have tt := t.tot okL
  have hls : ps.length ≤ 1000 := by rw [tt.2]; exact Nat.le_trans (setN_le L) hl
  have CPT := Lib.hid (uPoints2 S L P w h (by omega))
  have HH := Lib.hid h
  have HDD := Lib.hid d
  have HF := Lib.hid hf
  have HT := Lib.hid t
  have HOK := Lib.hid okL
  have HTT := Lib.hid tt
  have HLS := Lib.hid hls
  obtain ⟨Z0, hZ0⟩ : ∃ Z, w.heap.size = Z := ⟨_, rfl⟩
  have HZ0 := Lib.hid hZ0
  rw [hZ0]
  clear h d hf t hl okL tt hls
  go_enter Try.func17, Try.ntmps17
  go_upto_region 2 with (first
    | (go_at_call 20; refine CPT.out.mono ?_; clear CPT; rintro e wx ⟨PA, pc, ps', rfl, k1, k2, k3, k4⟩; have K1 := Lib.hid k1; have K2 := Lib.hid k2; have K3 := Lib.hid k3; clear k1 k2 k3 k4)
    | fail)
  have hps := HT.out.pts K2.out
  subst hps
  obtain ⟨Z, hZ⟩ : ∃ Z, wx.heap.size = Z := ⟨_, rfl⟩
  have HZ := Lib.hid hZ
  have BX : Hid (Below Z wx wx) := Lib.hid (Below.refl _ _)
  have SX : Hid (SetIs wx S L P) := Lib.hid (HH.out.grow K3.out)
  have DX : Hid (CoIs wx B ps' cs Q) := Lib.hid (HDD.out.keep (fun q hq => K3.out.block q (HDD.out.plt q hq)) K3.out.size)
  obtain ⟨A, A2, c, c2, hd⟩ := DX.out
  have HD := Lib.hid hd
  have gd : ∀ W, Below Z wx W → CoAt W B ps' cs Q A A2 c c2 := fun W hb => hd.grow (by rw [hZ]; exact hb)
  have gs : ∀ W, Below Z wx W → SetIs W S L P := fun W hb => SX.out.grow (by rw [hZ]; exact hb)
  have GD := Lib.hid gd
  have GS := Lib.hid gs
  have CB0 : ∀ W, Below Z wx W → W.cell? ⟨B, 0, none⟩ = some (.slice A ps'.length c) := fun W hb => (gd W hb).c0
  have KL : Hid (∀ W, Below Z wx W → Calls Try.prog 24 #[.pointer (some ⟨S, 0, none⟩)] W fun e w' => e = .returned (.int .i64 ps'.length) ∧ Below Z wx w') := Lib.hid fun W hb => by
    refine (uLen S L P W (GS.out W hb)).mono ?_
    rintro e w' ⟨rfl, rfl⟩
    exact ⟨by rw [HTT.out.2], hb⟩
  have KT : Hid (∀ W, Below Z wx W → Calls Try.prog 23 #[.pointer (some ⟨S, 0, none⟩)] W fun e w' => e = .returned (.int .i64 (setT L)) ∧ Below Z wx w') := Lib.hid fun W hb => by
    refine (uTot S L P W (GS.out W hb)).mono ?_
    rintro e w' ⟨rfl, rfl⟩
    exact ⟨rfl, hb⟩
  have KD : Hid (∀ W, Below Z wx W → Calls Try.prog 26 #[.pointer (some ⟨B, 0, none⟩)] W fun e w' => e = .returned (.int .i64 (setT L)) ∧ Below Z wx w') := Lib.hid fun W hb => by
    refine (cTotal B ps' cs Q W ⟨A, A2, c, c2, GD.out W hb⟩ HF.out (by rw [hd.len]; exact HLS.out)).mono ?_
    rintro e w' ⟨rfl, rfl⟩
    exact ⟨by rw [HTT.out.1], hb⟩
  clear hd gd gs hZ hZ0
  generalize setT L = tl at *
  refine wp_region_class (C := fun W => Below Z wx W) (by kernel_rfl) (by kernel_rfl) (BX.out.drew) ?_
  refine wpQuiet_step (fun K hK => ?_)
  refine quiet_val (by rfl) (v := ?_) ?_ (hK _ ?_)
  rotate_left
  · (intro w hSw; go_simp; try with_reducible rfl)
  clear hK K
  simp only [Act.put, List.setIfInBounds_toArray, List.set_cons_zero, List.set_cons_succ]
  refine wpQuiet_step (fun K hK => ?_)
  refine quiet_val (by rfl) (v := ?_) ?_ (hK _ ?_)
  rotate_left
  · (intro w hSw; go_simp; try with_reducible rfl)
  clear hK K
  simp only [Act.put, List.setIfInBounds_toArray, List.set_cons_zero, List.set_cons_succ]
  refine wpQuiet_step (fun K hK => ?_)
  refine quiet_val (by rfl) (v := ?_) ?_ (hK _ ?_)
  rotate_left
  · (intro w hSw; go_simp; try with_reducible rfl)
  clear hK K
  simp only [Act.put, List.setIfInBounds_toArray, List.set_cons_zero, List.set_cons_succ]
  refine wpQuiet_step (fun K hK => ?_)
  refine quiet_val (by rfl) (v := ?_) ?_ (hK _ ?_)
  rotate_left
  · (intro w hSw; go_simp; try with_reducible rfl)
  clear hK K
  simp only [Act.put, List.setIfInBounds_toArray, List.set_cons_zero, List.set_cons_succ]
  refine wpQuiet_step (fun K hK => ?_)
  refine quiet_val (by rfl) (v := ?_) ?_ (hK _ ?_)
  rotate_left
  · (intro w hSw; go_simp; try with_reducible rfl)
  clear hK K
  simp only [Act.put, List.setIfInBounds_toArray, List.set_cons_zero, List.set_cons_succ]
  refine wpQuiet_step (fun K hK => ?_)
  refine quiet_val (by rfl) (v := ?_) ?_ (hK _ ?_)
  rotate_left
  · (intro w hSw; have z := CB0 w hSw; go_simp; try with_reducible rfl)
  clear hK K
  simp only [Act.put, List.setIfInBounds_toArray, List.set_cons_zero, List.set_cons_succ]
  refine wpQuiet_step (fun K hK => ?_)
  refine quiet_val (by rfl) (v := ?_) ?_ (hK _ ?_)
  rotate_left
  · (intro w hSw; go_simp; try with_reducible rfl)
  clear hK K
  simp only [Act.put, List.setIfInBounds_toArray, List.set_cons_zero, List.set_cons_succ]
  refine wpQuiet_step (fun K hK => ?_)
  refine quiet_val (by rfl) (v := .bool false) (fun w hSw => ?_) (hK _ ?_)
  · (go_simp; first | done | (simp; done))
  clear hK K
  simp only [Act.put, List.setIfInBounds_toArray, List.set_cons_zero, List.set_cons_succ]
  refine wpQuiet_step (fun K hK => ?_)
  refine quiet_val (by rfl) (v := ?_) ?_ (hK _ ?_)
  rotate_left
  · (intro w hSw; go_simp; try with_reducible rfl)
  clear hK K
  simp only [Act.put, List.setIfInBounds_toArray, List.set_cons_zero, List.set_cons_succ]
  refine wpQuiet_step (fun K hK => ?_)
  refine quiet_val (by rfl) (v := ?_) ?_ (hK _ ?_)
  rotate_left
  · (intro w hSw; go_simp; try with_reducible rfl)
  clear hK K
  simp only [Act.put, List.setIfInBounds_toArray, List.set_cons_zero, List.set_cons_succ]
  refine wpQuiet_step (fun K hK => ?_)
  refine quiet_call (by rfl) 24 #[.pointer (some ⟨S, 0, none⟩)] ?_ (fun w hw => KL.out w hw) (hK _ ?_)
  · (intro w hSw; go_simp; try with_reducible rfl)
  clear hK K
  simp only [Act.put, List.setIfInBounds_toArray, List.set_cons_zero, List.set_cons_succ]
  refine wpQuiet_step (fun K hK => ?_)
  refine quiet_val (by rfl) (v := ?_) ?_ (hK _ ?_)
  rotate_left
  · (intro w hSw; go_simp; try with_reducible rfl)
  clear hK K
  simp only [Act.put, List.setIfInBounds_toArray, List.set_cons_zero, List.set_cons_succ]
  refine wpQuiet_step (fun K hK => ?_)
  refine quiet_val (by rfl) (v := ?_) ?_ (hK _ ?_)
  rotate_left
  · (intro w hSw; go_simp; try with_reducible rfl)
  clear hK K
  simp only [Act.put, List.setIfInBounds_toArray, List.set_cons_zero, List.set_cons_succ]
  refine wpQuiet_step (fun K hK => ?_)
  refine quiet_val (by rfl) (v := ?_) ?_ (hK _ ?_)
  rotate_left
  · (intro w hSw; go_simp; try with_reducible rfl)
  clear hK K
  simp only [Act.put, List.setIfInBounds_toArray, List.set_cons_zero, List.set_cons_succ]
  refine wpQuiet_step (fun K hK => ?_)
  refine quiet_val (by rfl) (v := ?_) ?_ (hK _ ?_)
  rotate_left
  · (intro w hSw; have z := CB0 w hSw; go_simp; try with_reducible rfl)
  clear hK K
  simp only [Act.put, List.setIfInBounds_toArray, List.set_cons_zero, List.set_cons_succ]
  refine wpQuiet_step (fun K hK => ?_)
  refine quiet_val (by rfl) (v := ?_) ?_ (hK _ ?_)
  rotate_left
  · (intro w hSw; go_simp; try with_reducible rfl)
  clear hK K
  simp only [Act.put, List.setIfInBounds_toArray, List.set_cons_zero, List.set_cons_succ]
  refine wpQuiet_step (fun K hK => ?_)
  refine quiet_val (by rfl) (v := .bool false) (fun w hSw => ?_) (hK _ ?_)
  · (go_simp; first | done | (simp; done))
  clear hK K
  simp only [Act.put, List.setIfInBounds_toArray, List.set_cons_zero, List.set_cons_succ]
  refine wpQuiet_step (fun K hK => ?_)
  refine quiet_val (by rfl) (v := ?_) ?_ (hK _ ?_)
  rotate_left
  · (intro w hSw; go_simp; try with_reducible rfl)
  clear hK K
  simp only [Act.put, List.setIfInBounds_toArray, List.set_cons_zero, List.set_cons_succ]
  refine wpQuiet_step (fun K hK => ?_)
  refine quiet_val (by rfl) (v := ?_) ?_ (hK _ ?_)
  rotate_left
  · (intro w hSw; go_simp; try with_reducible rfl)
  clear hK K
  simp only [Act.put, List.setIfInBounds_toArray, List.set_cons_zero, List.set_cons_succ]
  refine wpQuiet_step (fun K hK => ?_)
  refine quiet_val (by rfl) (v := ?_) ?_ (hK _ ?_)
  rotate_left
  · (intro w hSw; go_simp; try with_reducible rfl)
  clear hK K
  simp only [Act.put, List.setIfInBounds_toArray, List.set_cons_zero, List.set_cons_succ]
  refine wpQuiet_step (fun K hK => ?_)
  refine quiet_call (by rfl) 23 #[.pointer (some ⟨S, 0, none⟩)] ?_ (fun w hw => KT.out w hw) (hK _ ?_)
  · (intro w hSw; go_simp; try with_reducible rfl)
  clear hK K
  simp only [Act.put, List.setIfInBounds_toArray, List.set_cons_zero, List.set_cons_succ]
  refine wpQuiet_step (fun K hK => ?_)
  refine quiet_val (by rfl) (v := ?_) ?_ (hK _ ?_)
  rotate_left
  · (intro w hSw; go_simp; try with_reducible rfl)
  clear hK K
  simp only [Act.put, List.setIfInBounds_toArray, List.set_cons_zero, List.set_cons_succ]
  refine wpQuiet_step (fun K hK => ?_)
  refine quiet_call (by rfl) 26 #[.pointer (some ⟨B, 0, none⟩)] ?_ (fun w hw => KD.out w hw) (hK _ ?_)
  · (intro w hSw; go_simp; try with_reducible rfl)
  clear hK K
  simp only [Act.put, List.setIfInBounds_toArray, List.set_cons_zero, List.set_cons_succ]
  refine wpQuiet_step (fun K hK => ?_)
  refine quiet_val (by rfl) (v := .bool false) (fun w hSw => ?_) (hK _ ?_)
  · (go_simp; first | done | (simp; done))
  clear hK K
  simp only [Act.put, List.setIfInBounds_toArray, List.set_cons_zero, List.set_cons_succ]
  refine wpQuiet_step (fun K hK => ?_)
  refine quiet_val (by rfl) (v := ?_) ?_ (hK _ ?_)
  rotate_left
  · (intro w hSw; go_simp; try with_reducible rfl)
  clear hK K
  simp only [Act.put, List.setIfInBounds_toArray, List.set_cons_zero, List.set_cons_succ]
  refine wpQuiet_nil ?_
  intro wq hq
  have BQ : Hid (Below Z wx wq) := Lib.hid hq
  clear hq
  clear CB0 KL KT KD
  have up : Hid (∀ {W w' : World}, Below Z wx W → Below W.heap.size W w' → Below Z wx w') := Lib.hid fun hb g => hb.trans (g.mono (by have := hb.size; rw [HZ.out] at this; exact this))
  go_wp2
  go_loopw [6] (fun iv wr => ∃ i : Nat, i ≤ ps'.length ∧ iv = .int .i64 i ∧ Below Z wx wr) (fun iv _ => ps'.length - (intOf iv).toNat)
  case atStart => exact ⟨0, Nat.zero_le _, rfl, BQ.out⟩
  case round =>
    clear BQ
    obtain ⟨i, hi, rfl, hbr⟩ := hrel
    have BR := Lib.hid hbr
    clear hbr
    by_cases hlt : i < ps'.length
    · obtain ⟨tl1, tl2, tl3, tl4⟩ := HT.out.at' HOK.out hlt
      obtain ⟨p, hp⟩ : ∃ p, ps'.getD i [] = p := ⟨_, rfl⟩
      obtain ⟨x, hx⟩ : ∃ x, cs.getD i cn0 = x := ⟨_, rfl⟩
      obtain ⟨g, rfl, hg, hrg⟩ : ∃ g, PA = some ⟨g, 0, none⟩ ∧ g < wx.heap.size ∧ wx.rangeAt g (i * 9) (ptV (ps'.getD i [])) := by
        rcases K1.out with e | ⟨g, e, hg, hr⟩
        · rw [e] at hlt; simp at hlt
        · exact ⟨g, e, hg, hr i hlt⟩
      obtain ⟨_, gp, rfl, hgp, hrp⟩ := HD.out.pt hlt
      obtain ⟨_, gc, rfl, hgc, hrc⟩ := HD.out.cn (i := i) (by rw [HD.out.len]; exact hlt)
      rw [hp] at tl2 tl3 hrg hrp
      rw [hx] at tl2 tl4 hrc
      have CPG : Hid (∀ W, Below Z wx W → W.rangeAt g (i * 9) (ptV p)) := Lib.hid fun W hb => range_keep1 hrg (hb.block g (by rw [← HZ.out]; exact hg))
      have CPP : Hid (∀ W, Below Z wx W → W.rangeAt gp (i * 9) (ptV p)) := Lib.hid fun W hb => range_keep1 hrp (hb.block gp (by rw [← HZ.out]; exact HD.out.lt gp hgp))
      have CCC : Hid (∀ W, Below Z wx W → W.rangeAt gc (i * 11) (cnV x)) := Lib.hid fun W hb => range_keep1 hrc (hb.block gc (by rw [← HZ.out]; exact HD.out.lt gc hgc))
      have CBB : Hid (∀ W, Below Z wx W → W.cell? ⟨B, 0, none⟩ = some (.slice (some ⟨gp, 0, none⟩) ps'.length c) ∧ W.cell? ⟨B, 1, none⟩ = some (.slice (some ⟨gc, 0, none⟩) cs.length c2)) := Lib.hid fun W hb => ⟨(GD.out W hb).c0, (GD.out W hb).c1⟩
      have KG : Hid (Calls Try.prog 21 #[.pointer (some ⟨S, 0, none⟩), .agg (ptV p).toArray] wr fun e w' => e = .returned (.tuple #[.agg (cnV x).toArray, .bool true]) ∧ Below wr.heap.size wr w') := Lib.hid (by
        have := uGet S L P p wr (GS.out wr BR.out) tl3
        rw [tl2] at this
        exact this)
      have HPO := Lib.hid tl3
      have HXO := Lib.hid tl4
      have HP9 : Hid (p.length = 9) := Lib.hid (okT_len tl3)
      have HC10 : Hid (x.r.length = 10) := Lib.hid tl4.len
      have HCL : Hid (cs.length = ps'.length) := Lib.hid tl1
      have HLT := Lib.hid hlt
      have IW : Hid (wrap64 ((i : Int) + 1) = ((i + 1 : Nat) : Int)) := Lib.hid (by have := HLS.out; unfold wrap64; omega)
      have i0 : (0 : Int) ≤ (i : Int) := by omega
      have i1 : (i : Int) < (ps'.length : Int) := by omega
      have i2 : (i : Int) < (cs.length : Int) := by rw [tl1]; omega
      have RG := Lib.hid (CPG.out wr BR.out)
      have hz : ∀ w, (zeroValue 47).run Try.prog w = .ok (.agg (cnV cn0).toArray) w := z47
      clear hi hlt tl1 tl2 tl3 tl4 hp hx hg hrg hgp hrp hgc hrc
      go_upto_region 8 with (first
        | (refine wpList_load_midG (by rfl) 38 (.tmp 46) rfl g (i * 9) rfl (ptV p) _ RG.out Try.underlying38 rfl (szP HPO.out) ?_)
        | (go_at_call 21; refine KG.out.mono ?_; clear KG; rintro e wg ⟨rfl, hb⟩; have BG := Lib.hid (up.out BR.out hb); clear hb)
        | (refine wpList_store_rowTo rfl 47 (.tmp 7) (.tmp 49) rfl rfl _ (cnV x).toArray rfl rfl 47 _ (heap_alloc_last wg _) (szCA HC10.out) (szCC cn0_len HC10.out) (all_oneCell_toArray (cn_one x)) ?_)
        | fail)
      have RX : Hid (BL ((wg.alloc (Obj.cells (cnV cn0).toArray 47)).setRow wg.heap.size (cnV x).toArray) wg.heap.size (cnV x) 47) := Lib.hid (setRow_heap _ _ _ _ _ _ (heap_alloc_last wg _))
      have BB : Hid (Below Z wx ((wg.alloc (Obj.cells (cnV cn0).toArray 47)).setRow wg.heap.size (cnV x).toArray)) := Lib.hid (up.out BG.out (below_setRow ((Below.refl _ wg).alloc (Nat.le_refl _) _) (Nat.le_refl _) _))
      obtain ⟨XS, hXS⟩ : ∃ q, wg.heap.size = q := ⟨_, rfl⟩
      rw [hXS] at RX BB ⊢
      generalize (wg.alloc (Obj.cells (cnV cn0).toArray 47)).setRow XS (cnV x).toArray = wb at *
      clear hXS BG RG hz
      obtain ⟨X, hX⟩ : ∃ X, wb.heap.size = X := ⟨_, rfl⟩
      have HX := Lib.hid hX
      have BXX : Hid (Below X wb wb) := Lib.hid (Below.refl _ _)
      have u2 : ∀ W, Below X wb W → Below Z wx W := fun W hb => up.out BB.out (by rw [hX]; exact hb)
      have U2 := Lib.hid u2
      have CX : ∀ W, Below X wb W → W.rangeAt XS 0 (cnV x) := fun W hb => range_keep1 (range_of RX.out) (hb.block XS (by rw [← hX]; exact bl_lt RX.out))
      have CB0 : ∀ W, Below X wb W → W.cell? ⟨B, 0, none⟩ = some (.slice (some ⟨gp, 0, none⟩) ps'.length c) := fun W hb => (CBB.out W (u2 W hb)).1
      have CB1 : ∀ W, Below X wb W → W.cell? ⟨B, 1, none⟩ = some (.slice (some ⟨gc, 0, none⟩) cs.length c2) := fun W hb => (CBB.out W (u2 W hb)).2
      have CG : ∀ W, Below X wb W → W.rangeAt g (i * 9) (ptV p) := fun W hb => CPG.out W (u2 W hb)
      have CP : ∀ W, Below X wb W → W.rangeAt gp (i * 9) (ptV p) := fun W hb => CPP.out W (u2 W hb)
      have CC : ∀ W, Below X wb W → W.rangeAt gc (i * 11) (cnV x) := fun W hb => CCC.out W (u2 W hb)
      have KC : Hid (∀ W, Below X wb W → Calls Try.prog 12 #[.agg (cnV x).toArray] W fun e w' => e = .returned (.agg (cnV x).toArray) ∧ Below X wb w') := Lib.hid fun W hb => by
        refine (uCoin x W HC10.out).mono ?_
        rintro e w' ⟨rfl, g⟩
        exact ⟨rfl, hb.trans (g.mono (by have := hb.size; rw [HX.out] at this; exact this))⟩
      clear u2 hX
      refine wp_region_class (C := fun W => Below X wb W) (by kernel_rfl) (by kernel_rfl) (BXX.out.drew) ?_
      refine wpQuiet_step (fun K hK => ?_)
      refine quiet_val (by rfl) (v := ?_) ?_ (hK _ ?_)
      rotate_left
      · (intro w hSw; go_simp; try with_reducible rfl)
      clear hK K
      simp only [Act.put, List.setIfInBounds_toArray, List.set_cons_zero, List.set_cons_succ]
      refine wpQuiet_step (fun K hK => ?_)
      refine quiet_val (by rfl) (v := ?_) ?_ (hK _ ?_)
      rotate_left
      · (intro w hSw; go_simp; try with_reducible rfl)
      clear hK K
      simp only [Act.put, List.setIfInBounds_toArray, List.set_cons_zero, List.set_cons_succ]
      refine wpQuiet_step (fun K hK => ?_)
      refine quiet_val (by rfl) (v := ?_) ?_ (hK _ ?_)
      rotate_left
      · (intro w hSw; go_simp; try with_reducible rfl)
      clear hK K
      simp only [Act.put, List.setIfInBounds_toArray, List.set_cons_zero, List.set_cons_succ]
      refine wpQuiet_step (fun K hK => ?_)
      refine quiet_load (by rfl) 38 (.tmp 53) rfl g (i * 9) rfl (ptV p) _ (fun w h => CG w h) Try.underlying38 rfl (szP HPO.out) (hK _ ?_)
      clear hK K
      simp only [Act.put, List.setIfInBounds_toArray, List.set_cons_zero, List.set_cons_succ]
      refine wpQuiet_step (fun K hK => ?_)
      refine quiet_val (by rfl) (v := ?_) ?_ (hK _ ?_)
      rotate_left
      · (intro w hSw; go_simp; try with_reducible rfl)
      clear hK K
      simp only [Act.put, List.setIfInBounds_toArray, List.set_cons_zero, List.set_cons_succ]
      refine wpQuiet_step (fun K hK => ?_)
      refine quiet_val (by rfl) (v := ?_) ?_ (hK _ ?_)
      rotate_left
      · (intro w hSw; go_simp; try with_reducible rfl)
      clear hK K
      simp only [Act.put, List.setIfInBounds_toArray, List.set_cons_zero, List.set_cons_succ]
      refine wpQuiet_step (fun K hK => ?_)
      refine quiet_val (by rfl) (v := ?_) ?_ (hK _ ?_)
      rotate_left
      · (intro w hSw; go_simp; try with_reducible rfl)
      clear hK K
      simp only [Act.put, List.setIfInBounds_toArray, List.set_cons_zero, List.set_cons_succ]
      refine wpQuiet_step (fun K hK => ?_)
      refine quiet_val (by rfl) (v := ?_) ?_ (hK _ ?_)
      rotate_left
      · (intro w hSw; have z := CB0 w hSw; go_simp; try with_reducible rfl)
      clear hK K
      simp only [Act.put, List.setIfInBounds_toArray, List.set_cons_zero, List.set_cons_succ]
      refine wpQuiet_step (fun K hK => ?_)
      refine quiet_val (by rfl) (v := ?_) ?_ (hK _ ?_)
      rotate_left
      · (intro w hSw; go_simp; try with_reducible rfl)
      clear hK K
      simp only [Act.put, List.setIfInBounds_toArray, List.set_cons_zero, List.set_cons_succ]
      refine wpQuiet_step (fun K hK => ?_)
      refine quiet_val (by rfl) (v := ?_) ?_ (hK _ ?_)
      rotate_left
      · (intro w hSw; go_simp; try with_reducible rfl)
      clear hK K
      simp only [Act.put, List.setIfInBounds_toArray, List.set_cons_zero, List.set_cons_succ]
      refine wpQuiet_step (fun K hK => ?_)
      refine quiet_load (by rfl) 38 (.tmp 60) rfl gp (i * 9) rfl (ptV p) _ (fun w h => CP w h) Try.underlying38 rfl (szP HPO.out) (hK _ ?_)
      clear hK K
      simp only [Act.put, List.setIfInBounds_toArray, List.set_cons_zero, List.set_cons_succ]
      refine wpQuiet_step (fun K hK => ?_)
      refine quiet_val (by rfl) (v := .bool (!true)) (fun w hSw => exec_neq 38 38 (.tmp 54) (.tmp 61) (ptV p).toArray (ptV p).toArray true rfl rfl rfl (by kernel_rfl) (by have z := eq_ptV p p HP9.out HP9.out w; rwa [decide_eq_true rfl] at z)) (hK _ ?_)
      clear hK K
      simp only [Act.put, List.setIfInBounds_toArray, List.set_cons_zero, List.set_cons_succ]
      refine wpQuiet_step (fun K hK => ?_)
      refine quiet_val (by rfl) (v := ?_) ?_ (hK _ ?_)
      rotate_left
      · (intro w hSw; go_simp; try with_reducible rfl)
      clear hK K
      simp only [Act.put, List.setIfInBounds_toArray, List.set_cons_zero, List.set_cons_succ]
      refine wpQuiet_step (fun K hK => ?_)
      refine quiet_val (by rfl) (v := ?_) ?_ (hK _ ?_)
      rotate_left
      · (intro w hSw; go_simp; try with_reducible rfl)
      clear hK K
      simp only [Act.put, List.setIfInBounds_toArray, List.set_cons_zero, List.set_cons_succ]
      refine wpQuiet_step (fun K hK => ?_)
      refine quiet_val (by rfl) (v := ?_) ?_ (hK _ ?_)
      rotate_left
      · (intro w hSw; go_simp; try with_reducible rfl)
      clear hK K
      simp only [Act.put, List.setIfInBounds_toArray, List.set_cons_zero, List.set_cons_succ]
      refine wpQuiet_step (fun K hK => ?_)
      refine quiet_val (by rfl) (v := ?_) ?_ (hK _ ?_)
      rotate_left
      · (intro w hSw; go_simp; try with_reducible rfl)
      clear hK K
      simp only [Act.put, List.setIfInBounds_toArray, List.set_cons_zero, List.set_cons_succ]
      refine wpQuiet_step (fun K hK => ?_)
      refine quiet_val (by rfl) (v := ?_) ?_ (hK _ ?_)
      rotate_left
      · (intro w hSw; go_simp; try with_reducible rfl)
      clear hK K
      simp only [Act.put, List.setIfInBounds_toArray, List.set_cons_zero, List.set_cons_succ]
      refine wpQuiet_step (fun K hK => ?_)
      refine quiet_load (by rfl) 47 (.tmp 7) rfl XS (0) rfl (cnV x) _ (fun w h => CX w h) Try.underlying47 rfl (szL i47 (cnV_len HC10.out)) (hK _ ?_)
      clear hK K
      simp only [Act.put, List.setIfInBounds_toArray, List.set_cons_zero, List.set_cons_succ]
      refine wpQuiet_step (fun K hK => ?_)
      refine quiet_val (by rfl) (v := ?_) ?_ (hK _ ?_)
      rotate_left
      · (intro w hSw; go_simp; try with_reducible rfl)
      clear hK K
      simp only [Act.put, List.setIfInBounds_toArray, List.set_cons_zero, List.set_cons_succ]
      refine wpQuiet_step (fun K hK => ?_)
      refine quiet_val (by rfl) (v := ?_) ?_ (hK _ ?_)
      rotate_left
      · (intro w hSw; go_simp; try with_reducible rfl)
      clear hK K
      simp only [Act.put, List.setIfInBounds_toArray, List.set_cons_zero, List.set_cons_succ]
      refine wpQuiet_step (fun K hK => ?_)
      refine quiet_val (by rfl) (v := ?_) ?_ (hK _ ?_)
      rotate_left
      · (intro w hSw; go_simp; try with_reducible rfl)
      clear hK K
      simp only [Act.put, List.setIfInBounds_toArray, List.set_cons_zero, List.set_cons_succ]
      refine wpQuiet_step (fun K hK => ?_)
      refine quiet_val (by rfl) (v := ?_) ?_ (hK _ ?_)
      rotate_left
      · (intro w hSw; have z := CB1 w hSw; go_simp; try with_reducible rfl)
      clear hK K
      simp only [Act.put, List.setIfInBounds_toArray, List.set_cons_zero, List.set_cons_succ]
      refine wpQuiet_step (fun K hK => ?_)
      refine quiet_val (by rfl) (v := ?_) ?_ (hK _ ?_)
      rotate_left
      · (intro w hSw; go_simp; try with_reducible rfl)
      clear hK K
      simp only [Act.put, List.setIfInBounds_toArray, List.set_cons_zero, List.set_cons_succ]
      refine wpQuiet_step (fun K hK => ?_)
      refine quiet_val (by rfl) (v := ?_) ?_ (hK _ ?_)
      rotate_left
      · (intro w hSw; go_simp; try with_reducible rfl)
      clear hK K
      simp only [Act.put, List.setIfInBounds_toArray, List.set_cons_zero, List.set_cons_succ]
      refine wpQuiet_step (fun K hK => ?_)
      refine quiet_load (by rfl) 42 (.tmp 74) rfl gc (i * 11) rfl (cnV x) _ (fun w h => CC w h) Try.underlying42 rfl (szL i42c (cnV_len HC10.out)) (hK _ ?_)
      clear hK K
      simp only [Act.put, List.setIfInBounds_toArray, List.set_cons_zero, List.set_cons_succ]
      refine wpQuiet_step (fun K hK => ?_)
      refine quiet_call (by rfl) 12 #[.agg (cnV x).toArray] ?_ (fun w hw => KC.out w hw) (hK _ ?_)
      · (intro w hSw; go_simp; try with_reducible rfl)
      clear hK K
      simp only [Act.put, List.setIfInBounds_toArray, List.set_cons_zero, List.set_cons_succ]
      refine wpQuiet_step (fun K hK => ?_)
      refine quiet_val (by rfl) (v := .bool (!true)) (fun w hSw => exec_neq 47 47 (.tmp 68) (.tmp 76) (cnV x).toArray (cnV x).toArray true rfl rfl rfl (by kernel_rfl) (eq_cnV x HC10.out w)) (hK _ ?_)
      clear hK K
      simp only [Act.put, List.setIfInBounds_toArray, List.set_cons_zero, List.set_cons_succ]
      refine wpQuiet_step (fun K hK => ?_)
      refine quiet_val (by rfl) (v := ?_) ?_ (hK _ ?_)
      rotate_left
      · (intro w hSw; go_simp; try with_reducible rfl)
      clear hK K
      simp only [Act.put, List.setIfInBounds_toArray, List.set_cons_zero, List.set_cons_succ]
      refine wpQuiet_nil ?_
      intro wq hq
      have BQ2 : Hid (Below X wb wq) := Lib.hid hq
      clear hq
      clear CX CB0 CB1 CG CP CC KC
      go_wp2
      go_roundw
      case rel => exact ⟨i + 1, HLT.out, congrArg _ IW.out, U2.out _ BQ2.out⟩
      case measure => exact meas_up IW.out HLT.out
    · have i1 : ¬ (i : Int) < (ps'.length : Int) := by omega
      clear hi hlt
      go_wp2
      go_ret
      exact ⟨rfl, by
        have := K3.out
        rw [HZ0.out] at this
        exact this.trans (BR.out.mono (by have := this.size; have := HZ.out; have := HZ0.out; omega))⟩
end Go.Proofs.Ytdggnmlhgglccaa

/-
  UtxoBack: the walk.
-/
namespace Go.Proofs.Ytdggnmlhgglccaa
open Go.RowKit
set_option maxRecDepth 100000
/-- a Set that goes on, its copy, the document's Coins and a mark apart from it -/
structure BW (N : Nat) (w0 w : World) (S : Nat) (L' : List Stp) (P : Nat → Prop) (B : Nat) (ps : List (List Int)) (cs : List Cn) (Q : Nat → Prop) (S2 : Nat) (L : List Stp) (P2 : Nat → Prop) (U : Nat) : Prop where
  bel : Below N w0 w
  sz : N ≤ w.heap.size
  a : SetIs w S L' P
  b : CoIs w B ps cs Q
  c : SetIs w S2 L P2
  u : BL w U [.int .i64 (L.length : Nat)] 54
  la : ∀ q, P q → N ≤ q
  ab : ∀ q, P q → ¬ Q q
  ac : ∀ q, P q → ¬ P2 q
  au : ¬ P U
section
variable {N : Nat} {w0 w w' : World} {S B S2 U : Nat} {L' L L3 : List Stp} {P Q P2 P3 : Nat → Prop} {ps : List (List Int)} {cs : List Cn}
theorem BW.grow (h : BW N w0 w S L' P B ps cs Q S2 L P2 U) (hb : Below w.heap.size w w') : BW N w0 w' S L' P B ps cs Q S2 L P2 U :=
  ⟨h.bel.trans (hb.mono h.sz), Nat.le_trans h.sz hb.size, h.a.grow hb, h.b.keep (fun q hq => hb.block q (h.b.plt q hq)) hb.size, h.c.grow hb, bl_keep h.u (hb.block U (bl_lt h.u)), h.la, h.ab, h.ac, h.au⟩
theorem BW.turn (h : BW N w0 w S L' P B ps cs Q S2 L P2 U) (h1 : SetIs w' S L3 P3) (h2 : ∀ q, P3 q → P q ∨ w.heap.size ≤ q) (h3 : Fr w w' P) : BW N w0 w' S L3 P3 B ps cs Q S2 L P2 U :=
  ⟨h.bel.trans (h3.below h.sz h.la), Nat.le_trans h.sz h3.size, h1, h.b.keep (fun q hq => h3.block q (h.b.plt q hq) fun e => h.ab q e hq) h3.size, h.c.keep (fun q hq => h3.block q (h.c.plt q hq) fun e => h.ac q e hq) h3.size, h3.bl h.u h.au,
   fun q hq => (h2 q hq).elim (h.la q) fun e => Nat.le_trans h.sz e, fun q hq hq2 => (h2 q hq).elim (fun e => h.ab q e hq2) fun e => by have := h.b.plt q hq2; omega,
   fun q hq hq2 => (h2 q hq).elim (fun e => h.ac q e hq2) fun e => by have := h.c.plt q hq2; omega, fun hq => (h2 U hq).elim h.au fun e => by have := bl_lt h.u; omega⟩
end
theorem BW.start {N : Nat} {w0 w w2 : World} {S B S2 : Nat} {L : List Stp} {P Q P2 : Nat → Prop} {ps : List (List Int)} {cs : List Cn} (h : FW N w0 w S B L P ps cs Q) (hc : SetIs w2 S2 L P2) (hb : Below w.heap.size w w2) (hl : ∀ q, P2 q → w.heap.size ≤ q) :
    BW N w0 (w2.alloc (Obj.cells #[.int .i64 (L.length : Nat)] 54)) S L P B ps cs Q S2 L P2 w2.heap.size := by
  have b3 : Below w2.heap.size w2 (w2.alloc (Obj.cells #[.int .i64 (L.length : Nat)] 54)) := (Below.refl _ w2).alloc (Nat.le_refl _) _
  have f := (h.grow hb).grow b3
  have hs := hb.size
  exact ⟨f.bel, f.sz, f.a, f.b, hc.grow b3, heap_alloc_last w2 _, f.la, f.ap, fun q hq h2 => by have := h.a.plt q hq; have := hl q h2; omega, fun hq => by have := h.a.plt _ hq; omega⟩
theorem row_deedU {w : World} {N : Nat} {A0 : Option Addr} {n0 t : Nat} {D : Nat → Dd} (hN : w.heap.size = N) (hd : DRow w A0 n0 D) (hlt : t < n0) : ∃ b o, A0 = some ⟨b, o, none⟩ ∧ b < N ∧ ∀ w', Below N w w' → w'.rangeAt b (o + t * 22) (dV (D t)) := by
  rcases hd with h0 | ⟨b, o, e, hrow⟩
  · omega
  · have hb0 : b < N := by rw [← hN]; exact cell_lt (hrow t hlt 0 _ (by rfl))
    exact ⟨b, o, e, hb0, fun w' hb => range_keep1 (hrow t hlt) (hb.block b hb0)⟩
theorem add_app (L M : List Stp) (p : List Int) (c : Cn) {k i : Nat} (hk : M.length ≤ i) (_ : k = k) : ∃ M', (if mayAdd (M ++ L) p c then (⟨p, c, false⟩ : Stp) :: (M ++ L) else M ++ L) = M' ++ L ∧ M'.length ≤ i + 1 := by
  split
  · exact ⟨⟨p, c, false⟩ :: M, rfl, by rw [List.length_cons]; omega⟩
  · exact ⟨M, rfl, by omega⟩
theorem spend_app (L M : List Stp) (p : List Int) {i : Nat} (hk : M.length ≤ i) : ∃ M', spendL (M ++ L) p = M' ++ L ∧ M'.length ≤ i + 1 := by
  unfold spendL
  split
  · exact ⟨_ :: M, rfl, by rw [List.length_cons]; omega⟩
  · exact ⟨M, rfl, by omega⟩
theorem i54U : (Try.prog.info? 54).map (·.size) = some 1 := by kernel_rfl
attribute [local irreducible] ptV cnV zeros MapC stV ptsV csV wpQuiet
set_option maxHeartbeats 16000000 in
theorem qBack (A0 : Option Addr) (n0 cap0 : Nat) (D : Nat → Dd) (A1 : Option Addr) (n1 cap1 : Nat) (D1 : Nat → Dd) (w : World) (hd : DRow w A0 n0 D) (hok : ∀ i, (D i).ok) (hd1 : DRow w A1 n1 D1) (hok1 : ∀ i, (D1 i).ok) :
    Calls Try.prog 4 #[.slice A0 n0 cap0, .slice A1 n1 cap1] w fun e w' => e = .returned (.bool true) ∧ Below w.heap.size w w' := by
  obtain ⟨N, hN⟩ : ∃ N, w.heap.size = N := ⟨_, rfl⟩
  have HN := Lib.hid hN
  have HD := Lib.hid hd
  have HOK := Lib.hid hok
  have HD1 := Lib.hid hd1
  have HOK1 := Lib.hid hok1
  have AW := Lib.hid uAwake
  rw [hN]
  clear hd hok hd1 hok1
  by_cases h60 : 60 < n0
  · have h60' : decide ((60 : Int) < (n0 : Int)) = true := decide_eq_true (by omega)
    go_enter Try.func4, Try.ntmps4
    go_wp2_with (first
      | (go_at_call 7; refine (AW.out _).mono ?_; clear AW; rintro e w1 ⟨rfl, hb⟩; have B1 := Lib.hid hb; clear hb)
      | fail)
    go_ret
    exact ⟨rfl, by rw [← HN.out]; exact B1.out⟩
  have h60' : decide ((60 : Int) < (n0 : Int)) = false := decide_eq_false (by omega)
  by_cases h61 : 60 < n1
  · have h61' : decide ((60 : Int) < (n1 : Int)) = true := decide_eq_true (by omega)
    go_enter Try.func4, Try.ntmps4
    go_wp2_with (first
      | (go_at_call 7; refine (AW.out _).mono ?_; clear AW; rintro e w1 ⟨rfl, hb⟩; have B1 := Lib.hid hb; clear hb)
      | fail)
    go_ret
    exact ⟨rfl, by rw [← HN.out]; exact B1.out⟩
  have h61' : decide ((60 : Int) < (n1 : Int)) = false := decide_eq_false (by omega)
  have H60 := Lib.hid h60
  have H61 := Lib.hid h61
  clear h60 h61
  go_enter Try.func4, Try.ntmps4
  go_upto_region 5 with (first
    | (go_at_call 7; refine (AW.out _).mono ?_; clear AW; rintro e w1 ⟨rfl, hb⟩; have B1 := Lib.hid hb; clear hb)
    | fail)
  have BW1 : Hid (Below N w w1) := Lib.hid (by rw [← HN.out]; exact B1.out)
  have DR1 : DRow w1 A0 n0 D := by
    rcases HD.out with h0 | ⟨b, o, e, hrow⟩
    · exact .inl h0
    · exact .inr ⟨b, o, e, fun i hi => range_keep1 (hrow i hi) (B1.out.block b (cell_lt (hrow i hi 0 _ (by rfl))))⟩
  have CF := Lib.hid (uFill2 A0 n0 cap0 D w1 DR1 HOK.out (by have := H60.out; omega))
  clear DR1 B1 h60' h61'
  go_upto_region 8 with (first
    | (go_at_call 18; refine CF.out.mono ?_; clear CF; rintro e w2 ⟨S, B, L, P, ps, cs, Q, rfl, k1, k2, k3, k4⟩; have FF := Lib.hid k1; have FL := Lib.hid k2; have FT := Lib.hid k4; clear k1 k2 k3 k4)
    | fail)
  have LL : Hid (L.length ≤ 60) := Lib.hid (by have := FL.out; have := H60.out; omega)
  have CMK := Lib.hid (uMark S L P w2 FF.out.a)
  have CCP : Hid (∀ W, Below w2.heap.size w2 W → Calls Try.prog 19 #[.pointer (some ⟨S, 0, none⟩)] W fun e w' => ∃ S' P', e = .returned (.pointer (some ⟨S', 0, none⟩)) ∧ SetIs w' S' L P' ∧ Below w2.heap.size w2 w' ∧ ∀ q, P' q → w2.heap.size ≤ q) := Lib.hid fun W hb => by
    refine (uCopy S L P W (FF.out.a.grow hb) (by have := LL.out; omega)).mono ?_
    rintro e w' ⟨S', P', k1, k2, k3, k4⟩
    exact ⟨S', P', k1, k2, hb.trans (k3.mono hb.size), fun q hq => Nat.le_trans hb.size (k4 q hq)⟩
  go_upto_region 9 with (first
    | (go_at_call 15; refine CMK.out.mono ?_; clear CMK; rintro e w3 ⟨rfl, hb⟩; have B3 := Lib.hid hb; clear hb)
    | (go_at_call 19; refine (CCP.out _ B3.out).mono ?_; clear CCP; rintro e w4 ⟨S2, P2, rfl, k1, k2, k3⟩; have K1 := Lib.hid k1; have K2 := Lib.hid k2; have K3 := Lib.hid k3; clear k1 k2 k3)
    | fail)
  have F5 : Hid (BW w1.heap.size w1 (w4.alloc (Obj.cells #[.int .i64 (L.length : Nat)] 54)) S L P B ps cs Q S2 L P2 w4.heap.size) := Lib.hid (BW.start FF.out K1.out K2.out K3.out)
  have FN := Lib.hid FF.out.fine
  have NW1 : Hid (N ≤ w1.heap.size) := Lib.hid (by have := BW1.out.size; have := HN.out; omega)
  have F5 : Hid (BW N w (w4.alloc (Obj.cells #[.int .i64 (L.length : Nat)] 54)) S L P B ps cs Q S2 L P2 w4.heap.size) := Lib.hid (by
    have f := F5.out
    exact ⟨BW1.out.trans (f.bel.mono NW1.out), Nat.le_trans NW1.out f.sz, f.a, f.b, f.c, f.u, fun q hq => Nat.le_trans NW1.out (f.la q hq), f.ab, f.ac, f.au⟩)
  generalize w4.alloc (Obj.cells #[.int .i64 (L.length : Nat)] 54) = w5 at *
  generalize w4.heap.size = U at *
  clear FF K1 K2 K3 B3 BW1
  go_wp2
  go_loopw [9] (fun iv wr => ∃ (i : Nat) (M : List Stp) (P1 : Nat → Prop), i ≤ n1 ∧ iv = .int .i64 i ∧ BW N w wr S (M ++ L) P1 B ps cs Q S2 L P2 U ∧ M.length ≤ i) (fun iv _ => n1 - (intOf iv).toNat)
  case atStart => exact ⟨0, [], P, Nat.zero_le _, rfl, F5.out, Nat.le_refl _⟩
  case round =>
    clear F5
    obtain ⟨i, M, P1, hi, rfl, hf, hm⟩ := hrel
    have F1 := Lib.hid hf
    have HMI := Lib.hid hm
    clear hf hm
    by_cases hlt : i < n1
    · obtain ⟨b, o, rfl, hbN, hrow⟩ := row_deedU HN.out HD1.out hlt
      have HBB := Lib.hid hbN
      have HDO := Lib.hid (HOK1.out i)
      have ROW := Lib.hid (hrow wr F1.out.bel)
      generalize D1 i = d at *
      have c0 : wr.cell? ⟨b, o + i * 22, none⟩ = some (.int .i64 d.d) := by have := ROW.out 0 (.int .i64 d.d) rfl; rwa [Nat.add_zero] at this
      have HLT := Lib.hid hlt
      have IW : Hid (wrap64 ((i : Int) + 1) = ((i + 1 : Nat) : Int)) := Lib.hid (by have := H61.out; unfold wrap64; omega)
      have HLL : Hid ((M ++ L).length < 1000) := Lib.hid (by rw [List.length_append]; have := LL.out; have := HMI.out; have := H61.out; omega)
      have i1 : (i : Int) < (n1 : Int) := by omega
      have i0 : (0 : Int) ≤ (i : Int) := by omega
      obtain ⟨r1, r2⟩ := dd_rng HDO.out ROW.out
      have RP := Lib.hid r1
      have RC := Lib.hid r2
      clear hrow hi hlt hbN r1 r2
      by_cases he : bits .and .i64 d.d 1 = 0
      · have he2 : (bits .and .i64 d.d 1 == 0) = true := by rw [he]; rfl
        have CSP := Lib.hid (uSpend S (M ++ L) P1 d.p wr F1.out.a HDO.out.1 HLL.out)
        obtain ⟨M', hM1, hM2⟩ := spend_app L M d.p HMI.out
        have HM2 := Lib.hid hM2
        rw [hM1] at CSP
        clear hM1 hM2
        go_wp2_with (first
          | (refine wpList_load_midG (by rfl) 38 (.tmp 48) rfl b (o + i * 22 + 2) rfl (ptV d.p) _ RP.out Try.underlying38 rfl (szP HDO.out.1) ?_)
          | (go_at_call 14; refine CSP.out.mono ?_; clear CSP; rintro e wz ⟨rfl, P3, g1, g2, g3⟩; have F3 := Lib.hid (F1.out.turn g1 g2 g3); clear g1 g2 g3)
          | fail)
        go_roundw
        case rel => exact ⟨i + 1, M', P3, HLT.out, congrArg _ IW.out, F3.out, HM2.out⟩
        case measure => exact meas_up IW.out HLT.out
      · have he2 : (bits .and .i64 d.d 1 == 0) = false := beq_false_of_ne he
        go_upto_region 14 with (fail)
        clear c0
        have HBP : Hid (¬ P1 b) := Lib.hid fun e => by have := F1.out.la b e; have := HBB.out; omega
        obtain ⟨NX, hNX⟩ : ∃ n, wr.heap.size = n := ⟨_, rfl⟩
        have WX := Lib.hid hNX
        have HBN : Hid (b < NX) := Lib.hid (by have := HBB.out; have := F1.out.sz; omega)
        clear hNX
        refine wp_region_held_drew (S := (fun w' : World => ∀ q, q < NX → ¬ P1 q → w'.heap[q]? = wr.heap[q]?)) (by kernel_rfl) (by exact fun _ _ _ => rfl) (fun hHeld => ?_)
        refine wpAnyH_take (i := 0) (v := ?_) rfl (by kernel_rfl) (by kernel_rfl) (by kernel_rfl) (fun _ _ _ h => h) (Or.inl ⟨by rfl, ?_⟩) (by assumption) ?_
        rotate_left
        · (intro w hSw; (try dsimp only at hSw); go_simp; try with_reducible rfl)
        simp only [Act.put, List.getElem_toArray, List.getElem_cons_zero, List.setIfInBounds_toArray, List.set_cons_zero, List.set_cons_succ]
        refine wpAnyH_take (i := 1) (v := ?_) rfl (by kernel_rfl) (by kernel_rfl) (by kernel_rfl) (fun _ _ _ h => h) (Or.inl ⟨by rfl, ?_⟩) (by assumption) ?_
        rotate_left
        · (intro w hSw; (try dsimp only at hSw); go_simp; try with_reducible rfl)
        simp only [Act.put, List.getElem_toArray, List.getElem_cons_succ, List.getElem_cons_zero, List.setIfInBounds_toArray, List.set_cons_zero, List.set_cons_succ]
        refine wpAnyH_take (i := 2) (v := ?_) rfl (by kernel_rfl) (by kernel_rfl) (by kernel_rfl) (fun _ _ _ h => h) (Or.inl ⟨by rfl, ?_⟩) (by assumption) ?_
        rotate_left
        · (intro w hSw; (try dsimp only at hSw); go_simp; try with_reducible rfl)
        simp only [Act.put, List.getElem_toArray, List.getElem_cons_succ, List.getElem_cons_zero, List.setIfInBounds_toArray, List.set_cons_zero, List.set_cons_succ]
        refine wpAnyH_take (i := 3) (v := ?_) rfl (by kernel_rfl) (by kernel_rfl) (by kernel_rfl) (fun _ _ _ h => h) (Or.inl ⟨by rfl, ?_⟩) (by assumption) ?_
        rotate_left
        · (intro w hSw; (try dsimp only at hSw); go_simp; try with_reducible rfl)
        simp only [Act.put, List.getElem_toArray, List.getElem_cons_succ, List.getElem_cons_zero, List.setIfInBounds_toArray, List.set_cons_zero, List.set_cons_succ]
        refine wpAnyH_take (i := 4) (v := ?_) rfl (by kernel_rfl) (by kernel_rfl) (by kernel_rfl) (fun _ _ _ h => h) (Or.inl ⟨by rfl, ?_⟩) (by assumption) ?_
        rotate_left
        · (intro w hSw; (try dsimp only at hSw); go_simp; try with_reducible rfl)
        simp only [Act.put, List.getElem_toArray, List.getElem_cons_succ, List.getElem_cons_zero, List.setIfInBounds_toArray, List.set_cons_zero, List.set_cons_succ]
        refine wpAnyH_take (i := 5) rfl (by kernel_rfl) (by kernel_rfl) (by kernel_rfl) (fun _ _ _ h => h) (yieldsIf_load_mid (by rfl) 38 (.tmp 55) rfl b (o + i * 22 + 2) rfl (ptV d.p) _ (fun w h => range_keep1 RP.out (h b HBN.out HBP.out)) Try.underlying38 rfl (szP HDO.out.1)) (by assumption) ?_
        simp only [Act.put, List.getElem_toArray, List.getElem_cons_succ, List.getElem_cons_zero, List.setIfInBounds_toArray, List.set_cons_zero, List.set_cons_succ]
        refine wpAnyH_take (i := 6) (v := ?_) rfl (by kernel_rfl) (by kernel_rfl) (by kernel_rfl) (fun _ _ _ h => h) (Or.inl ⟨by rfl, ?_⟩) (by assumption) ?_
        rotate_left
        · (intro w hSw; (try dsimp only at hSw); go_simp; try with_reducible rfl)
        simp only [Act.put, List.getElem_toArray, List.getElem_cons_succ, List.getElem_cons_zero, List.setIfInBounds_toArray, List.set_cons_zero, List.set_cons_succ]
        refine wpAnyH_take (i := 7) (v := ?_) rfl (by kernel_rfl) (by kernel_rfl) (by kernel_rfl) (fun _ _ _ h => h) (Or.inl ⟨by rfl, ?_⟩) (by assumption) ?_
        rotate_left
        · (intro w hSw; (try dsimp only at hSw); go_simp; try with_reducible rfl)
        simp only [Act.put, List.getElem_toArray, List.getElem_cons_succ, List.getElem_cons_zero, List.setIfInBounds_toArray, List.set_cons_zero, List.set_cons_succ]
        refine wpAnyH_take (i := 8) (v := ?_) rfl (by kernel_rfl) (by kernel_rfl) (by kernel_rfl) (fun _ _ _ h => h) (Or.inl ⟨by rfl, ?_⟩) (by assumption) ?_
        rotate_left
        · (intro w hSw; (try dsimp only at hSw); go_simp; try with_reducible rfl)
        simp only [Act.put, List.getElem_toArray, List.getElem_cons_succ, List.getElem_cons_zero, List.setIfInBounds_toArray, List.set_cons_zero, List.set_cons_succ]
        refine wpAnyH_take (i := 9) (v := ?_) rfl (by kernel_rfl) (by kernel_rfl) (by kernel_rfl) (fun _ _ _ h => h) (Or.inl ⟨by rfl, ?_⟩) (by assumption) ?_
        rotate_left
        · (intro w hSw; (try dsimp only at hSw); go_simp; try with_reducible rfl)
        simp only [Act.put, List.getElem_toArray, List.getElem_cons_succ, List.getElem_cons_zero, List.setIfInBounds_toArray, List.set_cons_zero, List.set_cons_succ]
        refine wpAnyH_take (i := 10) rfl (by kernel_rfl) (by kernel_rfl) (by kernel_rfl) (fun _ _ _ h => h) (yieldsIf_load_mid (by rfl) 42 (.tmp 60) rfl b (o + i * 22 + 11) rfl (cnV d.c) _ (fun w h => range_keep1 RC.out (h b HBN.out HBP.out)) Try.underlying42 rfl (szL i42c (cnV_len HDO.out.2.1.len))) (by assumption) ?_
        simp only [Act.put, List.getElem_toArray, List.getElem_cons_succ, List.getElem_cons_zero, List.setIfInBounds_toArray, List.set_cons_zero, List.set_cons_succ]
        refine wpAnyH_ready (rs := [11]) (by kernel_rfl) (by simp) ?_
        refine AllReadyH.cons rfl (fun K hK => ?_) AllReadyH.nil
        go_simp
        go_at_call 12
        refine (uCoin d.c _ HDO.out.2.1.len).mono ?_
        rintro e wy ⟨rfl, hba⟩
        have F2 := Lib.hid ((F1.out.grow (Below.refl _ _).drew).grow hba)
        have XY : Hid (∀ q, q < NX → ¬ P1 q → wy.heap[q]? = wr.heap[q]?) := Lib.hid fun q hq _ => hba.block q (by have := WX.out; show q < wr.heap.size; omega)
        have SY : Hid (NX ≤ wy.heap.size) := Lib.hid (by have := hba.size; have := WX.out; have : wr.heap.size ≤ wy.heap.size := hba.size; omega)
        clear hba hHeld
        (try go_wp2_with fail)
        refine hK.out _ _ XY.out (fun hHeld => ?_)
        clear hK K
        refine wpAnyH_ready (rs := [12]) (by kernel_rfl) (by simp) ?_
        refine AllReadyH.cons rfl (fun K hK => ?_) AllReadyH.nil
        go_simp
        go_at_call 11
        refine (uAddC S (M ++ L) P1 d.p d.c _ F2.out.a HDO.out.1 HDO.out.2.1 HLL.out).mono ?_
        rintro e wz ⟨rfl, P2', g1, g2, g3⟩
        have F3 := Lib.hid (F2.out.turn g1 g2 g3)
        have XZ : Hid (∀ q, q < NX → ¬ P1 q → wz.heap[q]? = wr.heap[q]?) := Lib.hid fun q hq hn => (g3.block q (by have := SY.out; omega) hn).trans (XY.out q hq hn)
        clear g1 g2 g3 hHeld
        (try go_wp2_with fail)
        refine hK.out _ _ XZ.out (fun hHeld => ?_)
        clear hK K hHeld
        refine wpAnyH_done (by kernel_rfl) ?_ _
        clear XY XZ SY WX HBN HBP F2
        obtain ⟨M', hM1, hM2⟩ := add_app L M d.p d.c (k := 0) HMI.out rfl
        rw [hM1] at F3
        have HM2 := Lib.hid hM2
        clear hM1 hM2
        go_wp2_with fail
        go_roundw
        case rel => exact ⟨i + 1, M', P2', HLT.out, congrArg _ IW.out, F3.out, HM2.out⟩
        case measure => exact meas_up IW.out HLT.out
    · have i1 : ¬ (i : Int) < (n1 : Int) := by omega
      have CB := uBack S (M ++ L) P1 L.length wr F1.out.a (by rw [List.length_append]; have := LL.out; have := HMI.out; have := H61.out; omega)
      rw [if_pos (show L.length ≤ (M ++ L).length by rw [List.length_append]; omega), decide_eq_true (show L.length ≤ (M ++ L).length by rw [List.length_append]; omega), show (M ++ L).length - L.length = M.length by rw [List.length_append]; omega, List.drop_left] at CB
      have CB := Lib.hid CB
      have T1 : Hid True := Lib.hid trivial
      have CS1 : Hid (∀ W, BW N w W S L P1 B ps cs Q S2 L P2 U → Calls Try.prog 17 #[.pointer (some ⟨S, 0, none⟩), .pointer (some ⟨B, 0, none⟩)] W fun e w' => e = .returned (.bool true) ∧ Below W.heap.size W w') := Lib.hid fun W hw => uSame S B L P1 Q ps cs W hw.a hw.b FN.out FT.out (by have := LL.out; omega)
      have CS2 : Hid (∀ W, BW N w W S L P1 B ps cs Q S2 L P2 U → Calls Try.prog 17 #[.pointer (some ⟨S2, 0, none⟩), .pointer (some ⟨B, 0, none⟩)] W fun e w' => e = .returned (.bool true) ∧ Below W.heap.size W w') := Lib.hid fun W hw => uSame S2 B L P2 Q ps cs W hw.c hw.b FN.out FT.out (by have := LL.out; omega)
      clear hi hlt
      go_wp2_with (first
        | (refine wpList_load_midG (by rfl) 54 (.tmp 7) rfl U 0 rfl [.int .i64 (L.length : Nat)] _ (range_of F1.out.u) Try.underlying54 rfl i54U ?_)
        | (go_at_call 16; refine CB.out.mono ?_; clear CB; rintro e wz ⟨rfl, g1, g2⟩; have F3 := Lib.hid (F1.out.turn g1 (fun q hq => .inl hq) g2); clear g1 g2)
        | (clear T1; go_at_call 17; refine (CS1.out _ F3.out).mono ?_; clear CS1; rintro e wa ⟨rfl, hb⟩; have F4 := Lib.hid (F3.out.grow hb); clear hb)
        | (go_at_call 17; refine (CS2.out _ F4.out).mono ?_; clear CS2; rintro e wb ⟨rfl, hb⟩; have F6 := Lib.hid (F4.out.grow hb); clear hb)
        | fail)
      go_ret
      exact ⟨rfl, F6.out.bel⟩
end Go.Proofs.Ytdggnmlhgglccaa
