/-
  The document's own Num and Get; slices.Clone; the Writer's fail.
-/
import Derived.Test.YtffaddefnpkcgaaGreatDoorZA
namespace Go.Proofs.YtffaddefnpkcgaaGreatDoor
open Go.RowKit
set_option maxRecDepth 100000
theorem wc33n (w : World) : Calls Tryz.prog 68 #[.slice none 0 0] w fun e w' => e = .returned (.slice none 0 0) ∧ w = w' := by
  have hnil : ∀ w : World, (binOp BinOp.eql 42 (.slice none 0 0) (.slice none 0 0)).run Tryz.prog w = .ok (.bool true) w := fun _ => by kernel_rfl
  go_enter Tryz.func68, Tryz.ntmps68
  go_wp2
  go_ret
  exact ⟨rfl, rfl⟩
theorem wc33 (ad : Addr) (m c : Nat) (ys : List Int) (w : World) (hs : Src w (some ad) m ys) (hm : m ≤ 140737488355328) :
    Calls Tryz.prog 68 #[.slice (some ad) m c] w fun e w' => ∃ A c', e = .returned (.slice A m c') ∧ w'.ownsRow w.heap.size 5 1 (.slice A m c') m (bvals ys) ∧ Below w.heap.size w w' := by
  obtain ⟨i0, hi, hz0, hz1, hz2⟩ := info_parts info5
  have hnil : ∀ w : World, (binOp BinOp.eql 42 (.slice (some ad) m c) (.slice none 0 0)).run Tryz.prog w = .ok (.bool false) w := fun _ => rfl
  have HS : Hid (Src (w.alloc (Obj.cells #[] 5)) (some ad) m ys) := by
    refine ⟨hs.1, ?_⟩
    rcases hs.2 with h | ⟨b, off, h1, h2⟩
    · exact .inl h
    · refine .inr ⟨b, off, h1, fun i hi => ?_⟩
      have h0 := World.block_lt_of_cell? w ⟨b, off + i, none⟩ (h2 i hi)
      rw [World.cell?_of_block (w := w) (a := ⟨b, off + i, none⟩) (Below.heap_alloc w _ b h0)]
      exact h2 i hi
  have HI := Lib.hid hi
  have HI0 := Lib.hid hz0
  have HI1 := Lib.hid hz1
  have HI2 := Lib.hid hz2
  clear hi hz0 hz1 hz2 hs
  go_enter Tryz.func68, Tryz.ntmps68
  go_wp2_with (at_builtin; refine wpList_app rfl (.tmp 5) (.tmp 6) 42 rfl i0 Tryz.underlying42 HI.out HI0.out HI1.out HI2.out w.heap.size 0 (.slice (some ⟨w.heap.size, 0, none⟩) 0 0) [] rfl (own_none w) (some ad) m c ys rfl HS.out (fun h => by cases h) (by unfold maxLen; omega) (by omega) (by simp) ?_; intro A2 cc2 w2 hown2 hg2 _)
  have b5 : Below w.heap.size w w2 := ((Below.refl w.heap.size w).alloc (Nat.le_refl _) (Obj.cells #[] 5)).grown hg2 (by simp) (fun q hq => by simp [Value.ownBlock] at hq; omega)
  rw [Nat.zero_add] at hown2
  have OW := Lib.hid hown2
  have BL := Lib.hid b5
  clear hown2 b5 hg2
  go_wp2
  go_ret
  exact ⟨A2, cc2, rfl, OW.out, BL.out⟩
end Go.Proofs.YtffaddefnpkcgaaGreatDoor
namespace Go.Proofs.YtffaddefnpkcgaaGreatDoor
open Go.RowKit
set_option maxRecDepth 100000
structure Sl where
  A : Option Addr
  c : Nat
def Sl.v (s : Sl) (n : Nat) : Value := .slice s.A n s.c
def LRow (S : Sch) (w : World) (A : Option Addr) (rs : List (List Int)) : Prop :=
  rs = [] ∨ ∃ b o, A = some ⟨b, o, none⟩ ∧ ∀ j, j < rs.length → w.rangeAt b (o + j * S.length) (vals S (rcd rs j))
theorem range_keep {w W : World} {b o : Nat} {cs : List Value} (h : w.rangeAt b o cs) (hb : ∀ q, q < w.heap.size → W.heap[q]? = w.heap[q]?) : W.rangeAt b o cs := by
  intro i v hv
  have h3 := h i v hv
  have hlt := World.block_lt_of_cell? w ⟨b, o + i, none⟩ h3
  rw [← h3]
  simp only [World.cell?, hb b hlt]
theorem range_keep1 {w W : World} {b o : Nat} {cs : List Value} (h : w.rangeAt b o cs) (hb : W.heap[b]? = w.heap[b]?) : W.rangeAt b o cs := by
  intro i v hv
  have h3 := h i v hv
  rw [← h3]
  simp only [World.cell?, hb]
theorem LRow.keep {S : Sch} {w W : World} {A : Option Addr} {rs : List (List Int)} (h : LRow S w A rs) (hb : ∀ q, q < w.heap.size → W.heap[q]? = w.heap[q]?) : LRow S W A rs := by
  rcases h with h | ⟨b, o, e, h⟩
  · exact .inl h
  · exact .inr ⟨b, o, e, fun j hj => range_keep (h j hj) hb⟩
theorem lrow_at {S : Sch} {w : World} {A : Option Addr} {rs : List (List Int)} (h : LRow S w A rs) (hn : 0 < rs.length) : ∃ b o, A = some ⟨b, o, none⟩ ∧ ∀ j, j < rs.length → w.rangeAt b (o + j * S.length) (vals S (rcd rs j)) := by
  rcases h with rfl | h
  · simp at hn
  · exact h
theorem lrow_nil (S : Sch) (w : World) (A : Option Addr) : LRow S w A [] := .inl rfl
structure Cap (s : Sl) (n : Nat) : Prop where
  le : n ≤ s.c
  mx : s.c ≤ maxLen
  no : s.A = none → s.c = 0
structure TxH where
  i : Sl
  o : Sl
  f : Sl
  k : Sl
  co : Sl
  cs : Sl
structure Mem (w : World) (t : TxP) (h : TxH) : Prop where
  i : LRow inS w h.i.A t.ins
  o : LRow outS w h.o.A t.outs
  f : LRow fwdS w h.f.A t.fwds
  k : LRow hS w h.k.A t.keys
  co : LRow outS w h.co.A t.couts
  cs : LRow sgnS w h.cs.A t.csigs
  ic : Cap h.i t.ins.length
  oc : Cap h.o t.outs.length
  fc : Cap h.f t.fwds.length
  kc : Cap h.k t.keys.length
  coc : Cap h.co t.couts.length
  csc : Cap h.cs t.csigs.length
theorem Mem.keep {w W : World} {t : TxP} {h : TxH} (m : Mem w t h) (hb : ∀ q, q < w.heap.size → W.heap[q]? = w.heap[q]?) : Mem W t h :=
  ⟨m.i.keep hb, m.o.keep hb, m.f.keep hb, m.k.keep hb, m.co.keep hb, m.cs.keep hb, m.ic, m.oc, m.fc, m.kc, m.coc, m.csc⟩
def parC (t : TxP) (h : TxH) : List Value := vals parS t.par ++ [h.k.v t.keys.length]
def cerC (t : TxP) (h : TxH) : List Value := vals cerS t.cer ++ [h.co.v t.couts.length, h.cs.v t.csigs.length]
def claC (t : TxP) : List Value := vals claS t.cla
def txC (t : TxP) (h : TxH) : List Value := [.int .i64 t.kind, .int .i64 t.height, h.i.v t.ins.length, h.o.v t.outs.length, h.f.v t.fwds.length] ++ (parC t h ++ (cerC t h ++ claC t))
theorem parC_len {t : TxP} (h : TxH) (hw : WfT t) : (parC t h).length = 4 := by rw [parC, List.length_append, vals_len (okT_len hw.par)]; rfl
theorem cerC_len {t : TxP} (h : TxH) (hw : WfT t) : (cerC t h).length = 21 := by rw [cerC, List.length_append, vals_len (okT_len hw.cer)]; rfl
theorem claC_len {t : TxP} (hw : WfT t) : (claC t).length = 140 := by rw [claC, vals_len (okT_len hw.cla)]; rfl
theorem txC_len {t : TxP} (h : TxH) (hw : WfT t) : (txC t h).length = 170 := by
  rw [txC, List.length_append, List.length_append, List.length_append, parC_len h hw, cerC_len h hw, claC_len hw]; rfl
theorem parC_one (t : TxP) (h : TxH) : ∀ v ∈ parC t h, v.oneCell' = true := fun v hv => by
  rcases List.mem_append.1 hv with g | g
  · exact vals_one _ _ v g
  · rw [List.mem_singleton.1 g]; rfl
theorem cerC_one (t : TxP) (h : TxH) : ∀ v ∈ cerC t h, v.oneCell' = true := fun v hv => by
  rcases List.mem_append.1 hv with g | g
  · exact vals_one _ _ v g
  · simp only [List.mem_cons, List.not_mem_nil, or_false] at g
    rcases g with rfl | rfl <;> rfl
theorem claC_one (t : TxP) : ∀ v ∈ claC t, v.oneCell' = true := vals_one _ _
theorem txC_one (t : TxP) (h : TxH) : ∀ v ∈ txC t h, v.oneCell' = true := fun v hv => by
  rcases List.mem_append.1 hv with g | g
  · simp only [List.mem_cons, List.not_mem_nil, or_false] at g
    rcases g with rfl | rfl | rfl | rfl | rfl <;> rfl
  · rcases List.mem_append.1 g with g | g
    · exact parC_one t h v g
    · rcases List.mem_append.1 g with g | g
      · exact cerC_one t h v g
      · exact claC_one t v g
theorem range_app {w : World} {b o : Nat} {xs ys : List Value} (h : w.rangeAt b o (xs ++ ys)) : w.rangeAt b o xs ∧ w.rangeAt b (o + xs.length) ys := by
  constructor
  · intro i v hv
    have hi := (List.getElem?_eq_some_iff.1 hv).1
    exact h i v (by rw [List.getElem?_append_left hi]; exact hv)
  · intro i v hv
    rw [Nat.add_assoc]
    exact h (xs.length + i) v (by rw [List.getElem?_append_right (by omega), Nat.add_sub_cancel_left]; exact hv)
theorem range_join {w : World} {b o : Nat} {xs ys : List Value} (h : w.rangeAt b o xs) (g : w.rangeAt b (o + xs.length) ys) : w.rangeAt b o (xs ++ ys) := by
  intro i v hv
  by_cases hi : i < xs.length
  · rw [List.getElem?_append_left hi] at hv
    exact h i v hv
  · rw [List.getElem?_append_right (by omega)] at hv
    have := g (i - xs.length) v hv
    rwa [Nat.add_assoc, show xs.length + (i - xs.length) = i by omega] at this
theorem range_cell {w : World} {b o : Nat} {cs : List Value} (h : w.rangeAt b o cs) {i : Nat} {v : Value} (hv : cs[i]? = some v) : w.cell? ⟨b, o + i, none⟩ = some v := h i v hv
theorem range_of {w : World} {b : Nat} {cs : List Value} {t : TypeId} (h : w.heap[b]? = some (.cells cs.toArray t (0, 0))) : w.rangeAt b 0 cs := fun j u hj => by
  rw [Nat.zero_add, cell_of_row w b j _ t (0, 0) h, ← hj]
  simp
theorem range_new (w : World) (cs : List Value) (t : TypeId) : (w.alloc (.cells cs.toArray t)).rangeAt w.heap.size 0 cs := range_of (heap_alloc_last w _)
structure TRng (w : World) (b : Nat) (t : TxP) (h : TxH) : Prop where
  kind : w.cell? ⟨b, 0, none⟩ = some (.int .i64 t.kind)
  height : w.cell? ⟨b, 1, none⟩ = some (.int .i64 t.height)
  i : w.cell? ⟨b, 2, none⟩ = some (.slice h.i.A t.ins.length h.i.c)
  o : w.cell? ⟨b, 3, none⟩ = some (.slice h.o.A t.outs.length h.o.c)
  f : w.cell? ⟨b, 4, none⟩ = some (.slice h.f.A t.fwds.length h.f.c)
  par : w.rangeAt b 5 (parC t h)
  cer : w.rangeAt b 9 (cerC t h)
  cla : w.rangeAt b 30 (claC t)
theorem trng {w : World} {b : Nat} {t : TxP} {h : TxH} (hw : WfT t) (hr : w.rangeAt b 0 (txC t h)) : TRng w b t h := by
  have h0 := range_app hr
  have h1 := range_app h0.2
  have h2 := range_app h1.2
  simp only [List.length_cons, List.length_nil, Nat.zero_add, parC_len h hw, cerC_len h hw] at h1 h2
  exact ⟨range_cell h0.1 (i := 0) rfl, range_cell h0.1 (i := 1) rfl, range_cell h0.1 (i := 2) rfl, range_cell h0.1 (i := 3) rfl, range_cell h0.1 (i := 4) rfl, h1.1, h2.1, h2.2⟩
theorem wpList_load_midG {P : Program} {ops : Array Oper} {rest : List Oper} {op : Oper} {a : Act} {w : World} {Q : Exit → Act → World → Prop} (hw : Region.wanted op (yielded ops a.tmps) = true) (ty : TypeId) (x : Operand) (ho : op.op = .load ty x)
    (b o : Nat) (hx : a.eval x = .pointer (some ⟨b, o, none⟩)) (cs : List Value) (d : TypeDesc) (hc : w.rangeAt b o cs)
    (hu : P.underlying ty = some d) (hd : d.isRow = true) (hi : (P.info? ty).map (·.size) = some cs.length)
    (h : wpList P ops Q rest (a.put op.dst (.agg cs.toArray)) w) : wpList P ops Q (op :: rest) a w := by
  unfold wpList
  rw [if_pos hw]
  exact .inl (wp_load_mid ty x ho b o hx cs d hc hu hd hi h)
theorem i115 : (Tryz.prog.info? 115).map (·.size) = some 9 := by kernel_rfl
theorem i63 : (Tryz.prog.info? 63).map (·.size) = some 298 := by kernel_rfl
theorem i123 : (Tryz.prog.info? 123).map (·.size) = some 11 := by kernel_rfl
theorem i66 : (Tryz.prog.info? 66).map (·.size) = some 282 := by kernel_rfl
theorem i58 : (Tryz.prog.info? 58).map (·.size) = some 281 := by kernel_rfl
theorem i61 : (Tryz.prog.info? 61).map (·.size) = some 9 := by kernel_rfl
theorem i29 : (Tryz.prog.info? 29).map (·.size) = some 8 := by kernel_rfl
theorem i27 : (Tryz.prog.info? 27).map (·.size) = some 4 := by kernel_rfl
theorem i32 : (Tryz.prog.info? 32).map (·.size) = some 21 := by kernel_rfl
theorem i37 : (Tryz.prog.info? 37).map (·.size) = some 140 := by kernel_rfl
theorem i39 : (Tryz.prog.info? 39).map (·.size) = some 170 := by kernel_rfl
theorem szL {t n : Nat} {cs : List Value} (h : (Tryz.prog.info? t).map (·.size) = some n) (hl : cs.length = n) : (Tryz.prog.info? t).map (·.size) = some cs.length := by rw [hl]; exact h
theorem szA {t n : Nat} {cs : List Value} (h : (Tryz.prog.info? t).map (·.size) = some n) (hl : cs.length = n) : (Tryz.prog.info? t).map (·.size) = some cs.toArray.size := by rw [List.size_toArray, hl]; exact h
end Go.Proofs.YtffaddefnpkcgaaGreatDoor
namespace Go.Proofs.YtffaddefnpkcgaaGreatDoor
open Go.RowKit
set_option maxRecDepth 100000
theorem rg_app {S T : Sch} {w : World} {b o n : Nat} {r : List Int} (h : w.rangeAt b o (vals (S ++ T) r)) (hS : S.length = n) (hl : n ≤ r.length) : w.rangeAt b o (vals S (r.take n)) ∧ w.rangeAt b (o + n) (vals T (r.drop n)) := by
  subst hS
  rw [vals_app hl] at h
  have := range_app h
  rw [vals_len (by rw [List.length_take]; omega)] at this
  exact this
theorem rg_num {k : Nat} {S : Sch} {w : World} {b o : Nat} {r : List Int} (h : w.rangeAt b o (vals (some k :: S) r)) (hl : 1 ≤ r.length) : w.cell? ⟨b, o, none⟩ = some (.int .i64 ((cel r 0))) ∧ w.rangeAt b (o + 1) (vals S (r.drop 1)) := by
  cases r with
  | nil => simp at hl
  | cons x r =>
    have h1 : w.rangeAt b o ([.int .i64 x] ++ vals S r) := h
    have h2 := range_app h1
    exact ⟨range_cell h2.1 (i := 0) rfl, h2.2⟩
theorem rg_byt {k : Nat} {w : World} {b o : Nat} {r : List Int} (h : w.rangeAt b o (vals (List.replicate k none) r)) (hl : r.length = k) : w.rangeAt b o (bvals r) := by
  rw [vals_byt k r hl] at h
  exact h
theorem drop_len {r : List Int} {n k : Nat} (h : r.length = n) : (r.drop k).length = n - k := by rw [List.length_drop, h]
theorem take_len {r : List Int} {n k : Nat} (h : r.length = n) (hk : k ≤ n) : (r.take k).length = k := by rw [List.length_take, h]; omega
theorem seg_all {r : List Int} {i k : Nat} (h : r.length = i + k) : seg r i k = r.drop i := by
  rw [seg, List.take_of_length_le (by rw [List.length_drop]; omega)]
theorem seg_0 (r : List Int) (k : Nat) : seg r 0 k = r.take k := by rw [seg, List.drop_zero]
theorem out_at {w : World} {b o : Nat} {r : List Int} (h : w.rangeAt b o (vals outS r)) (hl : r.length = 9) : w.rangeAt b o (bvals (seg r 0 8)) ∧ w.cell? ⟨b, o + 8, none⟩ = some (.int .i64 (cel r 8)) := by
  obtain ⟨h1, h2⟩ := rg_app (n := 8) h rfl (by omega)
  refine ⟨by rw [seg_0]; exact rg_byt h1 (take_len hl (by omega)), ?_⟩
  have h3 := (rg_num h2 (by rw [drop_len hl]; omega)).1
  rw [cel_drop] at h3
  exact h3
theorem sig_at {w : World} {b o : Nat} {r : List Int} (h : w.rangeAt b o (vals sigS r)) (hl : r.length = 281) : w.cell? ⟨b, o, none⟩ = some (.int .i64 (cel r 0)) ∧ w.rangeAt b (o + 1) (bvals (seg r 1 280)) := by
  obtain ⟨h1, h2⟩ := rg_num h (by omega)
  exact ⟨h1, by rw [seg_all (by omega)]; exact rg_byt h2 (by rw [drop_len hl])⟩
theorem in_at {w : World} {b o : Nat} {r : List Int} (h : w.rangeAt b o (vals inS r)) (hl : r.length = 298) :
    w.rangeAt b o (bvals (seg r 0 8)) ∧ w.cell? ⟨b, o + 8, none⟩ = some (.int .i64 (cel r 8)) ∧ w.rangeAt b (o + 9) (bvals (seg r 9 8)) ∧ w.rangeAt b (o + 17) (vals sigS (seg r 17 281)) := by
  obtain ⟨h1, h2⟩ := rg_app (n := 8) h rfl (by omega)
  obtain ⟨h3, h4⟩ := rg_num h2 (by rw [drop_len hl]; omega)
  obtain ⟨h5, h6⟩ := rg_app (S := hS) (T := sigS) (n := 8) h4 rfl (by rw [List.drop_drop, drop_len hl]; omega)
  rw [cel_drop] at h3
  rw [List.drop_drop] at h5
  rw [List.drop_drop, List.drop_drop] at h6
  exact ⟨by rw [seg_0]; exact rg_byt h1 (take_len hl (by omega)), h3, rg_byt h5 (seg_len (by omega)), by rw [seg_all (by omega)]; exact h6⟩
theorem fwd_at {w : World} {b o : Nat} {r : List Int} (h : w.rangeAt b o (vals fwdS r)) (hl : r.length = 11) :
    w.cell? ⟨b, o, none⟩ = some (.int .i64 (cel r 0)) ∧ w.cell? ⟨b, o + 1, none⟩ = some (.int .i64 (cel r 1)) ∧ w.rangeAt b (o + 2) (bvals (seg r 2 8)) ∧ w.cell? ⟨b, o + 10, none⟩ = some (.int .i64 (cel r 10)) := by
  obtain ⟨h1, h2⟩ := rg_num h (by omega)
  obtain ⟨h3, h4⟩ := rg_num h2 (by rw [drop_len hl]; omega)
  obtain ⟨h5, h6⟩ := rg_app (S := hS) (T := [some 7]) (n := 8) h4 rfl (by rw [List.drop_drop, drop_len hl]; omega)
  have h7 := (rg_num h6 (by rw [List.drop_drop, List.drop_drop, drop_len hl]; omega)).1
  rw [cel_drop] at h3
  rw [List.drop_drop] at h5
  rw [List.drop_drop, List.drop_drop, cel_drop] at h7
  exact ⟨h1, h3, rg_byt h5 (seg_len (by omega)), h7⟩
theorem sgn_at {w : World} {b o : Nat} {r : List Int} (h : w.rangeAt b o (vals sgnS r)) (hl : r.length = 282) : w.cell? ⟨b, o, none⟩ = some (.int .i64 (cel r 0)) ∧ w.rangeAt b (o + 1) (vals sigS (seg r 1 281)) := by
  rw [seg_all (by omega)]
  exact rg_num h (by omega)
theorem cla_at {w : World} {b o : Nat} {r : List Int} (h : w.rangeAt b o (vals claS r)) (hl : r.length = 140) :
    w.cell? ⟨b, o, none⟩ = some (.int .i64 (cel r 0)) ∧ w.cell? ⟨b, o + 1, none⟩ = some (.int .i64 (cel r 1)) ∧ w.rangeAt b (o + 2) (bvals (seg r 2 8)) ∧ w.cell? ⟨b, o + 10, none⟩ = some (.int .i64 (cel r 10)) ∧ w.cell? ⟨b, o + 11, none⟩ = some (.int .i64 (cel r 11)) ∧ w.rangeAt b (o + 12) (bvals (seg r 12 128)) := by
  obtain ⟨h1, h2⟩ := rg_num h (by omega)
  obtain ⟨h3, h4⟩ := rg_num h2 (by rw [drop_len hl]; omega)
  obtain ⟨h5, h6⟩ := rg_app (S := hS) (T := [some 7, some 1] ++ List.replicate 128 none) (n := 8) h4 rfl (by rw [List.drop_drop, drop_len hl]; omega)
  obtain ⟨h7, h8⟩ := rg_num h6 (by rw [List.drop_drop, List.drop_drop, drop_len hl]; omega)
  obtain ⟨h9, ha⟩ := rg_num h8 (by rw [List.drop_drop, List.drop_drop, List.drop_drop, drop_len hl]; omega)
  rw [cel_drop] at h3
  rw [List.drop_drop] at h5
  rw [List.drop_drop, List.drop_drop, cel_drop] at h7
  rw [List.drop_drop, List.drop_drop, List.drop_drop, cel_drop] at h9
  rw [List.drop_drop, List.drop_drop, List.drop_drop, List.drop_drop] at ha
  exact ⟨h1, h3, rg_byt h5 (seg_len (by omega)), h7, h9, by rw [seg_all (by omega)]; exact rg_byt ha (by rw [drop_len hl])⟩
theorem par_at {w : World} {b o : Nat} {t : TxP} {h : TxH} (hr : w.rangeAt b o (parC t h)) (hl : t.par.length = 3) :
    w.cell? ⟨b, o, none⟩ = some (.int .i64 ((cel t.par 0))) ∧ w.cell? ⟨b, o + 1, none⟩ = some (.int .i64 ((cel t.par 1))) ∧ w.cell? ⟨b, o + 2, none⟩ = some (.int .i64 ((cel t.par 2))) ∧ w.cell? ⟨b, o + 3, none⟩ = some (.slice h.k.A t.keys.length h.k.c) := by
  obtain ⟨h0, h4⟩ := range_app hr
  rw [vals_len (show t.par.length = parS.length from hl)] at h4
  obtain ⟨h1, h2⟩ := rg_num h0 (by omega)
  obtain ⟨h3, h5⟩ := rg_num h2 (by rw [drop_len hl]; omega)
  obtain ⟨h6, _⟩ := rg_num h5 (by rw [List.drop_drop, drop_len hl]; omega)
  rw [cel_drop] at h3
  rw [List.drop_drop, cel_drop] at h6
  exact ⟨h1, h3, h6, range_cell h4 (i := 0) rfl⟩
theorem cer_at {w : World} {b o : Nat} {t : TxP} {h : TxH} (hr : w.rangeAt b o (cerC t h)) (hl : t.cer.length = 19) :
    w.cell? ⟨b, o, none⟩ = some (.int .i64 ((cel t.cer 0))) ∧ w.cell? ⟨b, o + 1, none⟩ = some (.int .i64 ((cel t.cer 1))) ∧ w.cell? ⟨b, o + 2, none⟩ = some (.int .i64 ((cel t.cer 2))) ∧
    w.rangeAt b (o + 3) (bvals (seg t.cer 3 8)) ∧ w.rangeAt b (o + 11) (bvals (seg t.cer 11 8)) ∧ w.cell? ⟨b, o + 19, none⟩ = some (.slice h.co.A t.couts.length h.co.c) ∧ w.cell? ⟨b, o + 20, none⟩ = some (.slice h.cs.A t.csigs.length h.cs.c) := by
  obtain ⟨h0, h4⟩ := range_app hr
  rw [vals_len (show t.cer.length = cerS.length from hl)] at h4
  obtain ⟨h1, h2⟩ := rg_num h0 (by omega)
  obtain ⟨h3, h5⟩ := rg_num h2 (by rw [drop_len hl]; omega)
  obtain ⟨h6, h7⟩ := rg_num h5 (by rw [List.drop_drop, drop_len hl]; omega)
  obtain ⟨h8, h9⟩ := rg_app (S := hS) (T := hS) (n := 8) h7 rfl (by rw [List.drop_drop, List.drop_drop, drop_len hl]; omega)
  rw [cel_drop] at h3
  rw [List.drop_drop, cel_drop] at h6
  rw [List.drop_drop, List.drop_drop] at h8
  rw [List.drop_drop, List.drop_drop, List.drop_drop] at h9
  exact ⟨h1, h3, h6, rg_byt h8 (seg_len (by omega)), by rw [seg_all (by omega)]; exact rg_byt h9 (by rw [drop_len hl]), range_cell h4 (i := 0) rfl, range_cell h4 (i := 1) rfl⟩
theorem lrow_len {S : Sch} {rs : List (List Int)} (h : AllR S rs) {j : Nat} (hj : j < rs.length) : (rcd rs j).length = S.length := by
  have : rcd rs j ∈ rs := by
    rw [rcd, List.getD_eq_getElem?_getD, List.getElem?_eq_getElem hj]
    exact List.getElem_mem hj
  exact okT_len (h _ this)
end Go.Proofs.YtffaddefnpkcgaaGreatDoor

