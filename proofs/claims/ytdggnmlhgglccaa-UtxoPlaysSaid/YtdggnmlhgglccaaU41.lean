/-
  The document's Coins in memory; at.
-/
import Derived.Test.YtdggnmlhgglccaaU40
import Derived.Deep.QuietTactic
namespace Go.Proofs.Ytdggnmlhgglccaa
open Go.RowKit
set_option maxRecDepth 100000
theorem flat_rng {α : Type} {w : World} {g k : Nat} {f : α → List Value} {d : α} : ∀ {l : List α} {o : Nat}, (∀ x ∈ l, (f x).length = k) → w.rangeAt g o (l.map f).flatten → ∀ {i : Nat}, i < l.length → w.rangeAt g (o + i * k) (f (l.getD i d))
  | [], _, _, _, i, hi => by simp at hi
  | x :: l, o, hk, h, 0, _ => by
    have h : w.rangeAt g o (f x ++ (l.map f).flatten) := h
    rw [Nat.zero_mul, Nat.add_zero]
    exact (range_app h).1
  | x :: l, o, hk, h, i + 1, hi => by
    have h : w.rangeAt g o (f x ++ (l.map f).flatten) := h
    have h2 := (range_app h).2
    rw [hk x (by simp)] at h2
    have := flat_rng (d := d) (fun y hy => hk y (List.mem_cons_of_mem _ hy)) h2 (i := i) (by simpa using hi)
    rwa [show o + (i + 1) * k = o + k + i * k by rw [Nat.add_mul]; omega]
def csV (l : List Cn) : List Value := (l.map cnV).flatten
/-- the document's Coins at block B: the points, their coins -/
structure CoAt (w : World) (B : Nat) (ps : List (List Int)) (cs : List Cn) (Q : Nat → Prop) (A A2 : Option Addr) (c c2 : Nat) : Prop where
  blk : BL w B [.slice A ps.length c, .slice A2 cs.length c2] 30
  len : cs.length = ps.length
  rp : w.ownsRow 0 38 9 (.slice A ps.length c) ps.length (ptsV ps)
  rc : w.ownsRow 0 42 11 (.slice A2 cs.length c2) cs.length (csV cs)
  okp : ∀ p ∈ ps, okP p
  okc : ∀ x ∈ cs, x.ok
  bp : ∀ q, (Value.slice A ps.length c).ownBlock = some q → Q q
  bc : ∀ q, (Value.slice A2 cs.length c2).ownBlock = some q → Q q
  inB : Q B
  lt : ∀ q, Q q → q < w.heap.size
def CoIs (w : World) (B : Nat) (ps : List (List Int)) (cs : List Cn) (Q : Nat → Prop) : Prop := ∃ A A2 c c2, CoAt w B ps cs Q A A2 c c2
theorem CoAt.keep {w w' : World} {B : Nat} {ps : List (List Int)} {cs : List Cn} {Q : Nat → Prop} {A A2 : Option Addr} {c c2 : Nat} (h : CoAt w B ps cs Q A A2 c c2) (hb : ∀ q, Q q → w'.heap[q]? = w.heap[q]?) (hs : w.heap.size ≤ w'.heap.size) : CoAt w' B ps cs Q A A2 c c2 :=
  ⟨bl_keep h.blk (hb B h.inB), h.len, row_keepO h.rp fun g hg => hb g (h.bp g hg), row_keepO h.rc fun g hg => hb g (h.bc g hg), h.okp, h.okc, h.bp, h.bc, h.inB, fun q hq => Nat.lt_of_lt_of_le (h.lt q hq) hs⟩
theorem CoIs.keep {w w' : World} {B : Nat} {ps : List (List Int)} {cs : List Cn} {Q : Nat → Prop} (h : CoIs w B ps cs Q) (hb : ∀ q, Q q → w'.heap[q]? = w.heap[q]?) (hs : w.heap.size ≤ w'.heap.size) : CoIs w' B ps cs Q := by
  obtain ⟨A, A2, c, c2, h⟩ := h
  exact ⟨A, A2, c, c2, h.keep hb hs⟩
theorem CoAt.grow {w w' : World} {B : Nat} {ps : List (List Int)} {cs : List Cn} {Q : Nat → Prop} {A A2 : Option Addr} {c c2 : Nat} (h : CoAt w B ps cs Q A A2 c c2) (hb : Below w.heap.size w w') : CoAt w' B ps cs Q A A2 c c2 := h.keep (fun q hq => hb.block q (h.lt q hq)) hb.size
theorem CoAt.c0 {w : World} {B : Nat} {ps : List (List Int)} {cs : List Cn} {Q : Nat → Prop} {A A2 : Option Addr} {c c2 : Nat} (h : CoAt w B ps cs Q A A2 c c2) : w.cell? ⟨B, 0, none⟩ = some (.slice A ps.length c) := by rw [cell_of_row w B 0 _ _ _ h.blk]; rfl
theorem CoAt.c1 {w : World} {B : Nat} {ps : List (List Int)} {cs : List Cn} {Q : Nat → Prop} {A A2 : Option Addr} {c c2 : Nat} (h : CoAt w B ps cs Q A A2 c c2) : w.cell? ⟨B, 1, none⟩ = some (.slice A2 cs.length c2) := by rw [cell_of_row w B 1 _ _ _ h.blk]; rfl
theorem getD_mem {α : Type} {l : List α} {d : α} {i : Nat} (h : i < l.length) : l.getD i d ∈ l := by
  rw [List.getD_eq_getElem?_getD, List.getElem?_eq_getElem h]
  exact List.getElem_mem h
theorem CoAt.pt {w : World} {B : Nat} {ps : List (List Int)} {cs : List Cn} {Q : Nat → Prop} {A A2 : Option Addr} {c c2 : Nat} (h : CoAt w B ps cs Q A A2 c c2) {i : Nat} (hi : i < ps.length) : okP (ps.getD i []) ∧ ∃ g, A = some ⟨g, 0, none⟩ ∧ Q g ∧ w.rangeAt g (i * 9) (ptV (ps.getD i [])) := by
  refine ⟨h.okp _ (getD_mem hi), ?_⟩
  rcases own_addr h.rp with ⟨_, e, _⟩ | ⟨g, rfl⟩
  · omega
  · have := flat_rng (d := []) (fun x hx => ptV_len (h.okp x hx)) (ownG_rng h.rp).2.2 hi
    rw [Nat.zero_add] at this
    exact ⟨g, rfl, h.bp g rfl, this⟩
theorem CoAt.cn {w : World} {B : Nat} {ps : List (List Int)} {cs : List Cn} {Q : Nat → Prop} {A A2 : Option Addr} {c c2 : Nat} (h : CoAt w B ps cs Q A A2 c c2) {i : Nat} (hi : i < cs.length) : (cs.getD i cn0).ok ∧ ∃ g, A2 = some ⟨g, 0, none⟩ ∧ Q g ∧ w.rangeAt g (i * 11) (cnV (cs.getD i cn0)) := by
  refine ⟨h.okc _ (getD_mem hi), ?_⟩
  rcases own_addr h.rc with ⟨_, e, _⟩ | ⟨g, rfl⟩
  · omega
  · have := flat_rng (d := cn0) (fun x hx => cnV_len (h.okc x hx).len) (ownG_rng h.rc).2.2 hi
    rw [Nat.zero_add] at this
    exact ⟨g, rfl, h.bc g rfl, this⟩
/-- where a point stands, or would -/
def idxP : List (List Int) → List Int → Nat
  | [], _ => 0
  | a :: l, p => if lessP a p = true then idxP l p + 1 else 0
def hasP (ps : List (List Int)) (p : List Int) : Bool := decide (ps.getD (idxP ps p) [] = p)
theorem meas_upN {k n : Nat} (e : wrap64 ((k : Int) + 1) = ((k + 1 : Nat) : Int)) (hk : k < n) : n - (intOf (.int .i64 (wrap64 ((k : Int) + 1)))).toNat < n - (intOf (.int .i64 (k : Int))).toNat := by
  rw [e]
  show n - ((k + 1 : Nat) : Int).toNat < n - ((k : Nat) : Int).toNat
  omega
theorem idxP_le : ∀ (l : List (List Int)) (p : List Int), idxP l p ≤ l.length
  | [], _ => Nat.le_refl _
  | a :: l, p => by
    unfold idxP
    split
    · have := idxP_le l p
      simp only [List.length_cons]; omega
    · omega
theorem idxP_at : ∀ {l : List (List Int)} {p : List Int} {i : Nat}, i ≤ l.length → (∀ j, j < i → lessP (l.getD j []) p = true) → (i < l.length → lessP (l.getD i []) p = false) → idxP l p = i
  | [], p, i, hi, _, _ => by
    obtain rfl : i = 0 := by simpa using hi
    rfl
  | a :: l, p, 0, _, _, h2 => by
    have : lessP a p = false := h2 (by simp)
    unfold idxP
    rw [this]; rfl
  | a :: l, p, i + 1, hi, h1, h2 => by
    have h0 : lessP a p = true := h1 0 (by omega)
    unfold idxP
    rw [h0, if_pos rfl, idxP_at (l := l) (p := p) (i := i) (by simpa using hi) (fun j hj => h1 (j + 1) (by omega)) fun h => h2 (by simpa using h)]
theorem eq_ptV (x y : List Int) (hx : x.length = 9) (hy : y.length = 9) (w : World) : (Op.equalIn 10000 38 (.agg (ptV x).toArray) (.agg (ptV y).toArray)).run Try.prog w = .ok (decide (x = y)) w := eq_pt x y hx hy w
section
variable {P : Program} {ops : Array Oper} {C : World → Prop}
theorem quiet_val {o : Oper} {a : Act} {K : Act → Prop} {E : Prop} (hw : Region.wanted o (yielded ops a.tmps) = true) {v : Value} (h : ∀ w, C w → (execOp a.eval o).run P w = .ok (.value v) w) (hK : K (a.put o.dst v)) : if Region.wanted o (yielded ops a.tmps) then o.quiet P a C K else E := by
  rw [if_pos hw]
  refine ⟨v, fun w hC => ?_, hK⟩
  unfold Oper.quietAt
  rw [h w hC]
  exact ⟨rfl, rfl⟩
theorem quiet_call {o : Oper} {a : Act} {K : Act → Prop} {E : Prop} (hw : Region.wanted o (yielded ops a.tmps) = true) {v : Value} (f : FuncId) (args : Array Value) (h : ∀ w, C w → (execOp a.eval o).run P w = .ok (.enter f args) w) (hc : ∀ w, C w → Calls P f args w fun e w' => e = .returned v ∧ C w') (hK : K (a.put o.dst v)) : if Region.wanted o (yielded ops a.tmps) then o.quiet P a C K else E := by
  rw [if_pos hw]
  refine ⟨v, fun w hC => ?_, hK⟩
  unfold Oper.quietAt
  rw [h w hC]
  exact ⟨rfl, hc w hC⟩
theorem quiet_load {o : Oper} {a : Act} {K : Act → Prop} {E : Prop} (hw : Region.wanted o (yielded ops a.tmps) = true) (ty : TypeId) (x : Operand) (ho : o.op = .load ty x)
    (b f : Nat) (hx : a.eval x = .pointer (some ⟨b, f, none⟩)) (cs : List Value) (d : TypeDesc) (hS : ∀ w, C w → w.rangeAt b f cs)
    (hu : P.underlying ty = some d) (hd : d.isRow = true) (hi : (P.info? ty).map (·.size) = some cs.length) (hK : K (a.put o.dst (.agg cs.toArray))) : if Region.wanted o (yielded ops a.tmps) then o.quiet P a C K else E :=
  quiet_val hw (fun w hw' => by
    unfold execOp
    simp only [ho, hx, Instr.loadAt, Instr.sureAddr, Sem.run_bind, Sem.run_pure, Result.andThen_ok, run_loadVar_mid w b f ty cs d (hS w hw') hu hd hi]) hK
theorem wp_region_class {id : Nat} {Q : Exit → Act → World → Prop} {a : Act} {w : World} {l : List Oper} (hm : P.follows .mixedOrders = true) (hB : Region.lexB .any l.toArray = true) (hC : C { w with drawn := w.drawn + 1 })
    (h : wpQuiet P l.toArray C (fun a' => ∀ w', C w' → Q .normal a' w') l a) : (Code.region id l.toArray true).wp P Q a w :=
  wp_region_quiet (C := C) hm hB hC (by simpa using h)
end
attribute [local irreducible] ptV cnV
set_option maxHeartbeats 2000000 in
theorem cAt (B : Nat) (ps : List (List Int)) (cs : List Cn) (Q : Nat → Prop) (p : List Int) (w : World) (h : CoIs w B ps cs Q) (hp : okP p) (hl : ps.length ≤ 1000) :
    Calls Try.prog 25 #[.pointer (some ⟨B, 0, none⟩), .agg (ptV p).toArray] w fun e w' => e = .returned (.tuple #[.int .i64 (idxP ps p : Nat), .bool (hasP ps p)]) ∧ Below w.heap.size w w' := by
  obtain ⟨A, A2, c, c2, h⟩ := h
  obtain ⟨v, hv⟩ : ∃ v, w.alloc (Obj.cells (ptV p).toArray 38) = v := ⟨_, rfl⟩
  obtain ⟨N, hN⟩ : ∃ N, w.heap.size = N := ⟨_, rfl⟩
  have G0 : Hid (Below N w v) := by subst hv hN; exact (Below.refl _ w).alloc (Nat.le_refl _) _
  have VS : Hid (v.heap.size = N + 1) := by subst hv hN; show _ = _; rw [World.size_alloc]
  have R0 : Hid (BL v N (ptV p) 38) := by subst hv hN; exact heap_alloc_last w _
  have HC : Hid (∀ W, Below v.heap.size v W → CoAt W B ps cs Q A A2 c c2) := Lib.hid fun W hb => (h.grow (hN ▸ G0.out)).grow hb
  have HP := Lib.hid hp
  have HL := Lib.hid hl
  have GO : Hid (∀ W, Below v.heap.size v W → Below N w W) := Lib.hid fun W hb => G0.out.trans (hb.mono (by rw [VS.out]; omega))
  clear h hp hl
  rw [hN]
  go_enter Try.func25, Try.ntmps25
  go_wp2_with fail
  (try change Code.wp _ _ _ _ v)
  go_loopw [6] (fun iv wr => ∃ i : Nat, i ≤ ps.length ∧ iv = .int .i64 i ∧ Below v.heap.size v wr ∧ (∀ j, j < i → lessP (ps.getD j []) p = true)) (fun iv _ => ps.length - (intOf iv).toNat)
  case atStart => exact ⟨0, by omega, rfl, by subst hv; exact Below.refl _ _, fun j h => by omega⟩
  case round =>
    obtain ⟨i, hi, rfl, hb, he⟩ := hrel
    have HE := Lib.hid he
    have HB := Lib.hid hb
    have HA := HC.out wr hb
    have d0 := HA.c0
    by_cases hlt : i < ps.length
    · obtain ⟨o1, g, rfl, hg, r1⟩ := HA.pt hlt
      obtain ⟨a, ha⟩ : ∃ a, ps.getD i [] = a := ⟨_, rfl⟩
      rw [ha] at o1 r1
      have i0 : (0 : Int) ≤ (i : Int) := by omega
      have i1 : (i : Int) < (ps.length : Int) := by omega
      have i2 : i < ps.length := hlt
      have HLT := Lib.hid hlt
      have R1 := Lib.hid r1
      have O1 := Lib.hid o1
      have HAA := Lib.hid ha
      have RB : Hid (wr.rangeAt N 0 (ptV p)) := range_keep1 (range_of R0.out) (hb.block N (bl_lt R0.out))
      have W1 : Hid (wrap64 ((i : Int) + 1) = ((i + 1 : Nat) : Int)) := Lib.hid (by have := HL.out; unfold wrap64; omega)
      have DL := Lib.hid (fun w => dLessP a p w O1.out HP.out)
      have GQ := Lib.hid hg
      clear he hb hlt ha r1 o1 HA hi hg
      have GL : Hid (g < wr.heap.size) := Lib.hid ((HC.out wr HB.out).lt g GQ.out)
      have NL : Hid (N < wr.heap.size) := Lib.hid (by have := HB.out.size; have := VS.out; omega)
      have C0 : ∀ W, Below wr.heap.size wr W → W.cell? ⟨B, 0, none⟩ = some (.slice (some ⟨g, 0, none⟩) ps.length c) := fun W hb => ((HC.out wr HB.out).grow hb).c0
      cases e1 : lessP a p with
      | true =>
        rw [e1] at DL
        go_wp2
        refine wp_region_class (C := fun W => Below wr.heap.size wr W) (by kernel_rfl) (by kernel_rfl) (Below.refl _ wr).drew ?_
        refine wpQuiet_step (fun K hK => ?_)
        refine quiet_val (by rfl) (v := ?_) ?_ (hK _ ?_)
        rotate_left
        · (intro w hSw; go_simp; try with_reducible rfl)
        clear hK K
        simp only [Act.put, List.setIfInBounds_toArray, List.set_cons_zero, List.set_cons_succ]
        refine wpQuiet_step (fun K hK => ?_)
        refine quiet_val (by rfl) (v := ?_) ?_ (hK _ ?_)
        rotate_left
        · (intro w hSw; go_simp; try with_reducible rfl)
        clear hK K
        simp only [Act.put, List.setIfInBounds_toArray, List.set_cons_zero, List.set_cons_succ]
        refine wpQuiet_step (fun K hK => ?_)
        refine quiet_val (by rfl) (v := ?_) ?_ (hK _ ?_)
        rotate_left
        · (intro w hSw; go_simp; try with_reducible rfl)
        clear hK K
        simp only [Act.put, List.setIfInBounds_toArray, List.set_cons_zero, List.set_cons_succ]
        refine wpQuiet_step (fun K hK => ?_)
        refine quiet_val (by rfl) (v := ?_) ?_ (hK _ ?_)
        rotate_left
        · (intro w hSw; have z := C0 w hSw; go_simp; try with_reducible rfl)
        clear hK K
        simp only [Act.put, List.setIfInBounds_toArray, List.set_cons_zero, List.set_cons_succ]
        refine wpQuiet_step (fun K hK => ?_)
        refine quiet_val (by rfl) (v := ?_) ?_ (hK _ ?_)
        rotate_left
        · (intro w hSw; go_simp; try with_reducible rfl)
        clear hK K
        simp only [Act.put, List.setIfInBounds_toArray, List.set_cons_zero, List.set_cons_succ]
        refine wpQuiet_step (fun K hK => ?_)
        refine quiet_val (by rfl) (v := ?_) ?_ (hK _ ?_)
        rotate_left
        · (intro w hSw; go_simp; try with_reducible rfl)
        clear hK K
        simp only [Act.put, List.setIfInBounds_toArray, List.set_cons_zero, List.set_cons_succ]
        refine wpQuiet_step (fun K hK => ?_)
        refine quiet_load (by rfl) 38 (.tmp 21) rfl g (i * 9) rfl (ptV a) _ (fun w h => range_keep1 R1.out (h.block g GL.out)) Try.underlying38 rfl (szP O1.out) (hK _ ?_)
        clear hK K
        simp only [Act.put, List.setIfInBounds_toArray, List.set_cons_zero, List.set_cons_succ]
        refine wpQuiet_step (fun K hK => ?_)
        refine quiet_load (by rfl) 38 (.tmp 3) rfl N (0) rfl (ptV p) _ (fun w h => range_keep1 RB.out (h.block N NL.out)) Try.underlying38 rfl (szP HP.out) (hK _ ?_)
        clear hK K
        simp only [Act.put, List.setIfInBounds_toArray, List.set_cons_zero, List.set_cons_succ]
        refine wpQuiet_step (fun K hK => ?_)
        refine quiet_call (by rfl) 22 #[.agg (ptV a).toArray, .agg (ptV p).toArray] ?_ (fun w hw => (DL.out w).mono fun e w' h => ⟨h.1, hw.trans (h.2.mono hw.size)⟩) (hK _ ?_)
        · (intro w hSw; go_simp; try with_reducible rfl)
        clear hK K
        simp only [Act.put, List.setIfInBounds_toArray, List.set_cons_zero, List.set_cons_succ]
        refine wpQuiet_step (fun K hK => ?_)
        refine quiet_val (by rfl) (v := ?_) ?_ (hK _ ?_)
        rotate_left
        · (intro w hSw; go_simp; try with_reducible rfl)
        clear hK K
        simp only [Act.put, List.setIfInBounds_toArray, List.set_cons_zero, List.set_cons_succ]
        refine wpQuiet_nil ?_
        intro w1 hq
        have G1 := Lib.hid (HB.out.trans (hq.mono HB.out.size))
        have B1 := Lib.hid hq
        clear hq
        clear C0
        go_wp2
        go_roundw
        case rel => exact ⟨i + 1, HLT.out, congrArg _ W1.out, G1.out, fun j hj => by
          rcases Nat.lt_succ_iff_lt_or_eq.1 hj with h | h
          · exact HE.out j h
          · rw [h, HAA.out]; exact e1⟩
        case measure => exact meas_upN W1.out HLT.out
      | false =>
        rw [e1] at DL
        go_wp2
        refine wp_region_class (C := fun W => Below wr.heap.size wr W) (by kernel_rfl) (by kernel_rfl) (Below.refl _ wr).drew ?_
        refine wpQuiet_step (fun K hK => ?_)
        refine quiet_val (by rfl) (v := ?_) ?_ (hK _ ?_)
        rotate_left
        · (intro w hSw; go_simp; try with_reducible rfl)
        clear hK K
        simp only [Act.put, List.setIfInBounds_toArray, List.set_cons_zero, List.set_cons_succ]
        refine wpQuiet_step (fun K hK => ?_)
        refine quiet_val (by rfl) (v := ?_) ?_ (hK _ ?_)
        rotate_left
        · (intro w hSw; go_simp; try with_reducible rfl)
        clear hK K
        simp only [Act.put, List.setIfInBounds_toArray, List.set_cons_zero, List.set_cons_succ]
        refine wpQuiet_step (fun K hK => ?_)
        refine quiet_val (by rfl) (v := ?_) ?_ (hK _ ?_)
        rotate_left
        · (intro w hSw; go_simp; try with_reducible rfl)
        clear hK K
        simp only [Act.put, List.setIfInBounds_toArray, List.set_cons_zero, List.set_cons_succ]
        refine wpQuiet_step (fun K hK => ?_)
        refine quiet_val (by rfl) (v := ?_) ?_ (hK _ ?_)
        rotate_left
        · (intro w hSw; have z := C0 w hSw; go_simp; try with_reducible rfl)
        clear hK K
        simp only [Act.put, List.setIfInBounds_toArray, List.set_cons_zero, List.set_cons_succ]
        refine wpQuiet_step (fun K hK => ?_)
        refine quiet_val (by rfl) (v := ?_) ?_ (hK _ ?_)
        rotate_left
        · (intro w hSw; go_simp; try with_reducible rfl)
        clear hK K
        simp only [Act.put, List.setIfInBounds_toArray, List.set_cons_zero, List.set_cons_succ]
        refine wpQuiet_step (fun K hK => ?_)
        refine quiet_val (by rfl) (v := ?_) ?_ (hK _ ?_)
        rotate_left
        · (intro w hSw; go_simp; try with_reducible rfl)
        clear hK K
        simp only [Act.put, List.setIfInBounds_toArray, List.set_cons_zero, List.set_cons_succ]
        refine wpQuiet_step (fun K hK => ?_)
        refine quiet_load (by rfl) 38 (.tmp 21) rfl g (i * 9) rfl (ptV a) _ (fun w h => range_keep1 R1.out (h.block g GL.out)) Try.underlying38 rfl (szP O1.out) (hK _ ?_)
        clear hK K
        simp only [Act.put, List.setIfInBounds_toArray, List.set_cons_zero, List.set_cons_succ]
        refine wpQuiet_step (fun K hK => ?_)
        refine quiet_load (by rfl) 38 (.tmp 3) rfl N (0) rfl (ptV p) _ (fun w h => range_keep1 RB.out (h.block N NL.out)) Try.underlying38 rfl (szP HP.out) (hK _ ?_)
        clear hK K
        simp only [Act.put, List.setIfInBounds_toArray, List.set_cons_zero, List.set_cons_succ]
        refine wpQuiet_step (fun K hK => ?_)
        refine quiet_call (by rfl) 22 #[.agg (ptV a).toArray, .agg (ptV p).toArray] ?_ (fun w hw => (DL.out w).mono fun e w' h => ⟨h.1, hw.trans (h.2.mono hw.size)⟩) (hK _ ?_)
        · (intro w hSw; go_simp; try with_reducible rfl)
        clear hK K
        simp only [Act.put, List.setIfInBounds_toArray, List.set_cons_zero, List.set_cons_succ]
        refine wpQuiet_step (fun K hK => ?_)
        refine quiet_val (by rfl) (v := ?_) ?_ (hK _ ?_)
        rotate_left
        · (intro w hSw; go_simp; try with_reducible rfl)
        clear hK K
        simp only [Act.put, List.setIfInBounds_toArray, List.set_cons_zero, List.set_cons_succ]
        refine wpQuiet_nil ?_
        intro w1 hq
        have G1 := Lib.hid (HB.out.trans (hq.mono HB.out.size))
        have B1 := Lib.hid hq
        clear hq
        have C1 : ∀ W, Below w1.heap.size w1 W → W.cell? ⟨B, 0, none⟩ = some (.slice (some ⟨g, 0, none⟩) ps.length c) := fun W hb => ((HC.out w1 G1.out).grow hb).c0
        have HQ : ∀ w', (Op.equalIn 10000 38 (.agg (ptV a).toArray) (.agg (ptV p).toArray)).run Try.prog w' = .ok (decide (a = p)) w' := fun w' => eq_ptV a p (okT_len O1.out) (okT_len HP.out) w'
        clear C0
        go_wp2
        refine wp_region_class (C := fun W => Below w1.heap.size w1 W) (by kernel_rfl) (by kernel_rfl) (Below.refl _ w1).drew ?_
        refine wpQuiet_step (fun K hK => ?_)
        refine quiet_val (by rfl) (v := ?_) ?_ (hK _ ?_)
        rotate_left
        · (intro w hSw; go_simp; try with_reducible rfl)
        clear hK K
        simp only [Act.put, List.setIfInBounds_toArray, List.set_cons_zero, List.set_cons_succ]
        refine wpQuiet_step (fun K hK => ?_)
        refine quiet_val (by rfl) (v := ?_) ?_ (hK _ ?_)
        rotate_left
        · (intro w hSw; go_simp; try with_reducible rfl)
        clear hK K
        simp only [Act.put, List.setIfInBounds_toArray, List.set_cons_zero, List.set_cons_succ]
        refine wpQuiet_step (fun K hK => ?_)
        refine quiet_val (by rfl) (v := ?_) ?_ (hK _ ?_)
        rotate_left
        · (intro w hSw; go_simp; try with_reducible rfl)
        clear hK K
        simp only [Act.put, List.setIfInBounds_toArray, List.set_cons_zero, List.set_cons_succ]
        refine wpQuiet_step (fun K hK => ?_)
        refine quiet_val (by rfl) (v := ?_) ?_ (hK _ ?_)
        rotate_left
        · (intro w hSw; go_simp; try with_reducible rfl)
        clear hK K
        simp only [Act.put, List.setIfInBounds_toArray, List.set_cons_zero, List.set_cons_succ]
        refine wpQuiet_step (fun K hK => ?_)
        refine quiet_val (by rfl) (v := ?_) ?_ (hK _ ?_)
        rotate_left
        · (intro w hSw; have z := C1 w hSw; go_simp; try with_reducible rfl)
        clear hK K
        simp only [Act.put, List.setIfInBounds_toArray, List.set_cons_zero, List.set_cons_succ]
        refine wpQuiet_step (fun K hK => ?_)
        refine quiet_val (by rfl) (v := ?_) ?_ (hK _ ?_)
        rotate_left
        · (intro w hSw; go_simp; try with_reducible rfl)
        clear hK K
        simp only [Act.put, List.setIfInBounds_toArray, List.set_cons_zero, List.set_cons_succ]
        refine wpQuiet_step (fun K hK => ?_)
        refine quiet_val (by rfl) (v := ?_) ?_ (hK _ ?_)
        rotate_left
        · (intro w hSw; go_simp; try with_reducible rfl)
        clear hK K
        simp only [Act.put, List.setIfInBounds_toArray, List.set_cons_zero, List.set_cons_succ]
        refine wpQuiet_step (fun K hK => ?_)
        refine quiet_load (by rfl) 38 (.tmp 32) rfl g (i * 9) rfl (ptV a) _ (fun w h => range_keep1 (range_keep1 R1.out (B1.out.block g GL.out)) (h.block g (Nat.lt_of_lt_of_le GL.out B1.out.size))) Try.underlying38 rfl (szP O1.out) (hK _ ?_)
        clear hK K
        simp only [Act.put, List.setIfInBounds_toArray, List.set_cons_zero, List.set_cons_succ]
        refine wpQuiet_step (fun K hK => ?_)
        refine quiet_load (by rfl) 38 (.tmp 3) rfl N (0) rfl (ptV p) _ (fun w h => range_keep1 (range_keep1 RB.out (B1.out.block N NL.out)) (h.block N (Nat.lt_of_lt_of_le NL.out B1.out.size))) Try.underlying38 rfl (szP HP.out) (hK _ ?_)
        clear hK K
        simp only [Act.put, List.setIfInBounds_toArray, List.set_cons_zero, List.set_cons_succ]
        refine wpQuiet_step (fun K hK => ?_)
        refine quiet_val (by rfl) (v := ?_) ?_ (hK _ ?_)
        rotate_left
        · (intro w hSw; go_simp; try with_reducible rfl)
        clear hK K
        simp only [Act.put, List.setIfInBounds_toArray, List.set_cons_zero, List.set_cons_succ]
        refine wpQuiet_step (fun K hK => ?_)
        refine quiet_val (by rfl) (v := ?_) ?_ (hK _ ?_)
        rotate_left
        · (intro w hSw; go_simp; try with_reducible rfl)
        clear hK K
        simp only [Act.put, List.setIfInBounds_toArray, List.set_cons_zero, List.set_cons_succ]
        refine wpQuiet_step (fun K hK => ?_)
        refine quiet_val (by rfl) (v := ?_) ?_ (hK _ ?_)
        rotate_left
        · (intro w hSw; go_simp; try with_reducible rfl)
        clear hK K
        simp only [Act.put, List.setIfInBounds_toArray, List.set_cons_zero, List.set_cons_succ]
        refine wpQuiet_nil ?_
        intro w2 hq
        have G2 := Lib.hid (G1.out.trans (hq.mono G1.out.size))
        clear hq
        clear C1 HQ
        go_wp2
        go_ret2
        have hx : idxP ps p = i := idxP_at (by have := HLT.out; omega) HE.out fun _ => by rw [HAA.out]; exact e1
        refine ⟨?_, GO.out _ G2.out⟩
        unfold hasP
        rw [hx, HAA.out]
        rfl
    · obtain rfl : i = ps.length := by omega
      have hx : idxP ps p = ps.length := idxP_at (Nat.le_refl _) HE.out fun h => by omega
      have hh : hasP ps p = false := by
        unfold hasP
        rw [hx, List.getD_eq_getElem?_getD, List.getElem?_eq_none (Nat.le_refl _)]
        refine decide_eq_false fun e => ?_
        have := okT_len HP.out
        rw [← e] at this
        cases this
      have HX := Lib.hid (And.intro hx hh)
      clear HA he hi hb hlt hx hh
      go_wp2
      go_ret2
      refine ⟨?_, GO.out _ HB.out⟩
      rw [HX.out.1, HX.out.2]
      rfl
end Go.Proofs.Ytdggnmlhgglccaa
