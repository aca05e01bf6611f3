/-
  The document's Coins: what Add and Spend do to the rows.
-/
import Derived.Test.YtdggnmlhgglccaaU43
namespace Go.Proofs.Ytdggnmlhgglccaa
open Go.RowKit
set_option maxRecDepth 100000
theorem pts_one (l : List (List Int)) : ∀ u ∈ ptsV l, u.oneCell' = true := fun u hu => by
  obtain ⟨x, hx, h⟩ := List.mem_flatten.1 hu
  obtain ⟨p, _, rfl⟩ := List.mem_map.1 hx
  exact pt_one p u h
theorem cs_one (l : List Cn) : ∀ u ∈ csV l, u.oneCell' = true := fun u hu => by
  obtain ⟨x, hx, h⟩ := List.mem_flatten.1 hu
  obtain ⟨p, _, rfl⟩ := List.mem_map.1 hx
  exact cn_one p u h
theorem flat_take {α : Type} {f : α → List Value} {k : Nat} : ∀ {l : List α}, (∀ x ∈ l, (f x).length = k) → ∀ (i : Nat), (l.map f).flatten.take (i * k) = ((l.take i).map f).flatten ∧ (l.map f).flatten.drop (i * k) = ((l.drop i).map f).flatten
  | [], _, i => by simp
  | x :: l, h, 0 => by simp
  | x :: l, h, i + 1 => by
    obtain ⟨h1, h2⟩ := flat_take (f := f) (k := k) (l := l) (fun y hy => h y (List.mem_cons_of_mem _ hy)) i
    have e : (i + 1) * k = (f x).length + i * k := by rw [h x (by simp), Nat.add_mul]; omega
    simp only [List.map_cons, List.flatten_cons, List.take_succ_cons, List.drop_succ_cons, e]
    rw [List.take_length_add_append, List.drop_length_add_append, h1, h2]
    exact ⟨rfl, rfl⟩
theorem ptsV_app (a b : List (List Int)) : ptsV (a ++ b) = ptsV a ++ ptsV b := by simp [ptsV]
theorem csV_app (a b : List Cn) : csV (a ++ b) = csV a ++ csV b := by simp [csV]
theorem ptsV_cut {ps : List (List Int)} (h : ∀ p ∈ ps, okP p) (i : Nat) : (ptsV ps).take (i * 9) = ptsV (ps.take i) ∧ (ptsV ps).drop (i * 9) = ptsV (ps.drop i) := flat_take (fun p hp => ptV_len (h p hp)) i
theorem csV_cut {cs : List Cn} (h : ∀ c ∈ cs, c.ok) (i : Nat) : (csV cs).take (i * 11) = csV (cs.take i) ∧ (csV cs).drop (i * 11) = csV (cs.drop i) := flat_take (fun c hc => cnV_len (h c hc).len) i
theorem el27 : Try.prog.elem 27 = 38 := by kernel_rfl
theorem el28 : Try.prog.elem 28 = 42 := by kernel_rfl
theorem sz27 (w : World) : (sizeOf (Try.prog.elem 27)).run Try.prog w = .ok 9 w := by kernel_rfl
theorem sz28 (w : World) : (sizeOf (Try.prog.elem 28)).run Try.prog w = .ok 11 w := by kernel_rfl
theorem infoCn : (Try.prog.info? 42).map (fun i => (i.zero, i.size, i.bytes)) = some (some (.agg (cnV cn0).toArray), 11, 32) := by kernel_rfl
theorem zPt : (Value.agg (ptV (zeros 9)).toArray).cells.size = 9 := by simp [Value.cells, ptV9]
theorem zCn : (Value.agg (cnV cn0).toArray).cells.size = 11 := by simp [Value.cells, cnV_len cn0_len]
theorem own_base0 {w : World} {base n sz : Nat} {t : TypeId} {v : Value} {xs : List Value} (h : w.ownsRow base t sz v n xs) : w.ownsRow 0 t sz v n xs := by
  refine ⟨h.1, ?_⟩
  rcases h.2 with g | ⟨g, cap, cur, e1, _, r⟩
  · exact .inl g
  · exact .inr ⟨g, cap, cur, e1, Nat.zero_le _, r⟩
theorem own_le {w : World} {base b n sz : Nat} {t : TypeId} {v : Value} {xs : List Value} (h : w.ownsRow base t sz v n xs) (hb : b ≤ base) : w.ownsRow b t sz v n xs := by
  refine ⟨h.1, ?_⟩
  rcases h.2 with g | ⟨g, cap, cur, e1, h2, r⟩
  · exact .inl g
  · exact .inr ⟨g, cap, cur, e1, Nat.le_trans hb h2, r⟩
theorem own_cells {w : World} {base n sz : Nat} {t : TypeId} {v : Value} {xs : List Value} (h : w.ownsRow base t sz v n xs) {g : Nat} (hg : v.ownBlock = some g) : ∃ cur, w.heap[g]? = some (.cells cur t (0, 0)) := by
  rcases h.2 with ⟨e, _⟩ | ⟨g', c, cur, e1, _, h3, _⟩
  · rw [e] at hg; cases hg
  · rw [e1] at hg
    cases hg
    exact ⟨cur, h3⟩
theorem own_ne {w : World} {base n sz B : Nat} {t T : TypeId} {v : Value} {xs cs : List Value} (h : w.ownsRow base t sz v n xs) (hb : BL w B cs T) (ht : t ≠ T) {g : Nat} (hg : v.ownBlock = some g) : g ≠ B := fun e => by
  obtain ⟨cur, h1⟩ := own_cells h hg
  rw [e, show w.heap[B]? = _ from hb] at h1
  exact ht (Obj.cells.inj (Option.some.inj h1)).2.1.symm
theorem wpOp_last {P : Program} {ops : Array Oper} {Q : Exit → Act → World → Prop} {n : Nat} {o : Oper} {a : Act} {K : Act → World → Prop} {w : World} (ho : ops[n]? = some o) (hw : Region.wanted o (yielded ops a.tmps) = true) (h : o.wp P a w K Q) : wpOp P ops Q n K a w := by
  unfold wpOp
  simp only [ho, hw, if_true]
  exact .inl h
theorem qn_last {P : Program} {ops : Array Oper} {Q : Exit → Act → World → Prop} {n : Nat} {o : Oper} {a : Act} {w : World} (ho : ops[n]? = some o) (hw : Region.wanted o (yielded ops a.tmps) = true) (h : o.wp P a w (fun a' w' => Q .normal a' w') Q) : Qn Q (fun a w => wpOp P ops Q n (fun a' w' => Q .normal a' w') a w) .normal a w :=
  wpOp_last (Q := Q) ho hw h
def cMay (ps : List (List Int)) (cs : List Cn) (p : List Int) (x : Cn) : Prop := hasP ps p = false ∧ 0 ≤ cel p 8 ∧ cel p 8 ≤ 255 ∧ 1 ≤ amt x ∧ totC cs + amt x ≤ maxM
instance (ps : List (List Int)) (cs : List Cn) (p : List Int) (x : Cn) : Decidable (cMay ps cs p x) := by unfold cMay; infer_instance
/-- the points' row is stored -/
theorem co_storeP {w u : World} {B : Nat} {ps ps' : List (List Int)} {cs : List Cn} {Q : Nat → Prop} {A A2 A3 : Option Addr} {c c2 c3 n' : Nat} (h : CoAt w B ps cs Q A A2 c c2) (hb : Below w.heap.size w u) (hr : u.ownsRow w.heap.size 38 9 (.slice A3 n' c3) n' (ptsV ps')) :
    BL (u.setCell ⟨B, 0, none⟩ (.slice A3 n' c3)) B [.slice A3 n' c3, .slice A2 cs.length c2] 30 ∧ (u.setCell ⟨B, 0, none⟩ (.slice A3 n' c3)).ownsRow 0 42 11 (.slice A2 cs.length c2) cs.length (csV cs) ∧ (u.setCell ⟨B, 0, none⟩ (.slice A3 n' c3)).ownsRow w.heap.size 38 9 (.slice A3 n' c3) n' (ptsV ps') := by
  have hB := h.lt B h.inB
  have kb := bl_keep h.blk (hb.block B hB)
  have rc : u.ownsRow 0 42 11 (.slice A2 cs.length c2) cs.length (csV cs) := row_keepO h.rc fun g hg => hb.block g (h.lt g (h.bc g hg))
  have hset : ∀ q, q ≠ B → (u.setCell ⟨B, 0, none⟩ (.slice A3 n' c3)).heap[q]? = u.heap[q]? := fun q hq => heap_set1 _ _ _ hq
  exact ⟨bl_set kb 0 _, row_keepO rc fun g hg => hset g (own_ne rc kb (by decide) hg), row_keepO hr fun g hg => hset g (own_ne hr kb (by decide) hg)⟩
/-- both rows are stored -/
theorem co_done {w u x : World} {B : Nat} {ps ps' : List (List Int)} {cs cs' : List Cn} {Q : Nat → Prop} {A A2 A3 A4 : Option Addr} {c c2 c3 c4 : Nat} (h : CoAt w B ps cs Q A A2 c c2) (hb : Below w.heap.size w u) (hr : u.ownsRow w.heap.size 38 9 (.slice A3 ps'.length c3) ps'.length (ptsV ps'))
    (hb2 : Below (u.setCell ⟨B, 0, none⟩ (.slice A3 ps'.length c3)).heap.size (u.setCell ⟨B, 0, none⟩ (.slice A3 ps'.length c3)) x) (hr2 : x.ownsRow (u.setCell ⟨B, 0, none⟩ (.slice A3 ps'.length c3)).heap.size 42 11 (.slice A4 cs'.length c4) cs'.length (csV cs'))
    (hl : cs'.length = ps'.length) (okp : ∀ p ∈ ps', okP p) (okc : ∀ y ∈ cs', y.ok) :
    ∃ Q', CoIs (x.setCell ⟨B, 1, none⟩ (.slice A4 cs'.length c4)) B ps' cs' Q' ∧ (∀ q, Q' q → Q q ∨ w.heap.size ≤ q) ∧ Fr w (x.setCell ⟨B, 1, none⟩ (.slice A4 cs'.length c4)) Q := by
  obtain ⟨b1, _, b3⟩ := co_storeP h hb hr
  have hB := h.lt B h.inB
  have hs0 : w.heap.size ≤ u.heap.size := hb.size
  have hsu : (u.setCell ⟨B, 0, none⟩ (.slice A3 ps'.length c3)).heap.size = u.heap.size := World.size_setCell _ _ _
  have hsx := hb2.size
  rw [hsu] at hsx
  have kb := bl_keep b1 (hb2.block B (by rw [hsu]; omega))
  have rp := row_keepO b3 (w' := x) fun g hg => hb2.block g (own_blk b3 hg).2
  have hset : ∀ q, q ≠ B → (x.setCell ⟨B, 1, none⟩ (.slice A4 cs'.length c4)).heap[q]? = x.heap[q]? := fun q hq => heap_set1 _ _ _ hq
  have hss : (x.setCell ⟨B, 1, none⟩ (.slice A4 cs'.length c4)).heap.size = x.heap.size := World.size_setCell _ _ _
  refine ⟨fun q => q = B ∨ (w.heap.size ≤ q ∧ q < x.heap.size), ⟨A3, A4, c3, c4, ?_, hl, ?_, ?_, okp, okc, fun q hq => .inr (own_blk rp hq), fun q hq => .inr ⟨?_, (own_blk hr2 hq).2⟩, .inl rfl, fun q hq => ?_⟩, fun q hq => ?_, ?_⟩
  · exact bl_set kb 1 _
  · exact own_base0 (row_keepO rp fun g hg => hset g (own_ne rp kb (by decide) hg))
  · exact own_base0 (row_keepO hr2 fun g hg => hset g (own_ne hr2 kb (by decide) hg))
  · have := (own_blk hr2 hq).1
    rw [hsu] at this
    omega
  · rw [hss]
    rcases hq with rfl | hq
    · omega
    · exact hq.2
  · rcases hq with rfl | hq
    · exact .inl h.inB
    · exact .inr hq.1
  · refine ⟨hb2.os.trans hb.os, hb2.tape.trans hb.tape, hb2.output.trans hb.output, by rw [hss]; omega, fun q hq hn => ?_⟩
    have hqB : q ≠ B := fun e => hn (e ▸ h.inB)
    exact (hset q hqB).trans ((hb2.block q (by rw [hsu]; omega)).trans ((heap_set1 _ _ _ hqB).trans (hb.block q hq)))
theorem step_app0 {sl t : TypeId} {z : Value} {sz by' : Nat} (hu : Try.prog.underlying sl = some (.slice t)) (hi : (Try.prog.info? t).map (fun i => (i.zero, i.size, i.bytes)) = some (some z, sz, by')) (hz : z.cells.size = sz) (h0 : 0 < sz) (hb : by' ≤ 1000) {w : World} {ops : Array Oper} {o : Oper} {a : Act} {K : Act → World → Prop} {Q : Exit → Act → World → Prop} {E : Prop} (hgd : o.guard = none) (s y : Operand)
    (ho : o.op = .call { callee := .builtin .append, args := #[s, y], argTypes := #[sl, sl] }) (base m c : Nat) (ys : List Value) (B : Option Addr) (hv : a.eval s = .slice none 0 0) (hx : a.eval y = .slice B m c) (hs : SrcG w sz B m ys) (hm : m ≤ 100000) (hbase : base ≤ w.heap.size)
    (h : ∀ A c' w', w'.ownsRow base t sz (.slice A m c') m ys → Below base w w' → K (a.put o.dst (.slice A m c')) w') : if Region.wanted o (yielded ops a.tmps) = true then Oper.wp Try.prog o a w K Q else E :=
  step_appG hu hi hz h0 hb hgd s y ho base 0 m c (.slice none 0 0) [] ys B hv hx (World.ownsRow_nil w base t sz) hs (by omega) hm hbase fun A c' w' h1 h2 => by
    rw [Nat.zero_add, List.nil_append] at h1
    rw [Nat.zero_add]
    exact h A c' w' h1 h2
end Go.Proofs.Ytdggnmlhgglccaa
