/-
  Lists over a tape.
-/
import Derived.Test.YtffaddefnpkcgaaGreatDoorZT24
import Derived.OwnWalk
import Derived.Test.YtffaddefnpkcgaaGreatDoorZW
namespace Go.Proofs.YtffaddefnpkcgaaGreatDoor
open Go.RowKit
set_option maxRecDepth 100000
def Tape.stR (T : Tape) (ps : List Pc) : List Int → List (List Int) → Option (List Int × List (List Int))
  | bs, [] => some (bs, [])
  | bs, r :: rs => (T.st ps bs r).bind fun p => (T.stR ps p.1 rs).bind fun q => some (q.1, p.2 :: q.2)
theorem Tape.stR_app (T : Tape) (ps : List Pc) : ∀ (rs ss : List (List Int)) (bs : List Int), T.stR ps bs (rs ++ ss) = (T.stR ps bs rs).bind fun p => (T.stR ps p.1 ss).bind fun q => some (q.1, p.2 ++ q.2)
  | [], ss, bs => by
    simp only [List.nil_append, Tape.stR, Option.bind_some]
    cases T.stR ps bs ss <;> rfl
  | r :: rs, ss, bs => by
    simp only [List.cons_append, Tape.stR]
    cases T.st ps bs r with
    | none => rfl
    | some p =>
      simp only [Option.bind_some]
      rw [Tape.stR_app T ps rs ss]
      cases T.stR ps p.1 rs with
      | none => rfl
      | some q =>
        simp only [Option.bind_some]
        cases T.stR ps q.1 ss <;> simp
theorem Tape.stR_all (T : Tape) (ps : List Pc) : ∀ (rs : List (List Int)) (bs : List Int) (p : List Int × List (List Int)), (∀ r ∈ rs, r.length = (schP ps).length) → T.stR ps bs rs = some p → ∀ r ∈ p.2, r.length = (schP ps).length
  | [], bs, p, _, h => by
    simp only [Tape.stR, Option.some.injEq] at h
    rw [← h]
    intro r hr; cases hr
  | r :: rs, bs, p, hl, h => by
    simp only [Tape.stR] at h
    obtain ⟨p1, h1, h2⟩ := bind_some h
    obtain ⟨q, h3, h4⟩ := bind_some h2
    simp only [Option.some.injEq] at h4
    rw [← h4]
    intro x hx
    rcases List.mem_cons.1 hx with rfl | hx
    · exact T.st_len ps _ _ p1 (hl r (by simp)) h1
    · exact Tape.stR_all T ps rs _ q (fun y hy => hl y (List.mem_cons_of_mem _ hy)) h3 x hx
def rowsOf (S : Sch) (n : Int) (rs : List (List Int)) : List (List Int) := if n = rs.length then rs else List.replicate n.toNat (zeros S.length)
def Tape.stL (T : Tape) (ps : List Pc) (bs : List Int) (rs : List (List Int)) : Option (List Int × List (List Int)) :=
  (T.stN 1 bs rs.length).bind fun p => T.stR ps p.1 (rowsOf (schP ps) p.2 rs)
def RowIn (T : Tape) (S : Sch) (w : World) (A : Option Addr) (rs : List (List Int)) (N : Nat) : Prop :=
  rs = [] ∨ ∃ g off, A = some ⟨g, off, none⟩ ∧ T.Own w g ∧ g < w.heap.size ∧ (N ≤ g ∨ T.ro = true) ∧ ∀ j, j < rs.length → w.rangeAt g (off + j * S.length) (vals S (rcd rs j))
structure LstAt (T : Tape) (S : Sch) (w : World) (b o : Nat) (rs : List (List Int)) (N : Nat) (A : Option Addr) (c : Nat) : Prop where
  cell : w.cell? ⟨b, o, none⟩ = some (.slice A rs.length c)
  le : rs.length ≤ c
  mx : c ≤ maxLen
  no : A = none → c = 0
  len : ∀ r ∈ rs, r.length = S.length
  row : RowIn T S w A rs N
theorem LstAt.keep {T : Tape} {S : Sch} {w W : World} {b o M : Nat} {rs : List (List Int)} {A : Option Addr} {c : Nat} (h : LstAt T S w b o rs M A c) (hk : ∀ q, q < w.heap.size → T.Own w q → W.heap[q]? = w.heap[q]? ∧ T.Own W q) (hs : w.heap.size ≤ W.heap.size) (hb : b < w.heap.size) (hO : T.Own w b) : LstAt T S W b o rs M A c := by
  refine ⟨by simp only [World.cell?, (hk b hb hO).1]; exact h.cell, h.le, h.mx, h.no, h.len, ?_⟩
  rcases h.row with h | ⟨g, off, e, h1, h2, h3, h4⟩
  · exact .inl h
  · exact .inr ⟨g, off, e, (hk g h2 h1).2, Nat.lt_of_lt_of_le h2 hs, h3, fun j hj => range_keep1 (h4 j hj) (hk g h2 h1).1⟩
def Tape.PostL (T : Tape) (S : Sch) (w : World) (b o : Nat) : Option (List Int × List (List Int)) → Ending → World → Prop
  | some p, e, w' => e = .returned (.tuple #[]) ∧ T.I w' p.1 ∧ Ch T.Own T.ro w w' b o 1 ∧ ∃ A c, LstAt T S w' b o p.2 w.heap.size A c
  | none, e, w' => Short e ∧ T.J w'
def Tape.Lst (T : Tape) (F : Nat) (item : Value) (ps : List Pc) : Prop := ∀ (w : World) (bs : List Int) (b o : Nat) (A : Option Addr) (c : Nat) (rs : List (List Int)), T.I w bs → b < w.heap.size → T.Own w b → LstAt T (schP ps) w b o rs 0 A c →
  (T.ro = true ∨ rs = []) → (T.stL ps bs rs = none → T.sh = true) → Calls Tryz.prog F #[T.V, .pointer (some ⟨b, o, none⟩), item] w (T.PostL (schP ps) w b o (T.stL ps bs rs))
def Tape.Itm (T : Tape) (F : Nat) (X : Value) (ps : List Pc) : Prop := ∀ (w : World) (bs : List Int) (b o : Nat) (r : List Int), T.I w bs → b < w.heap.size → T.Own w b → r.length = (schP ps).length → w.rangeAt b o (vals (schP ps) r) → (T.st ps bs r = none → T.sh = true) →
  Calls Tryz.prog F #[X, .pointer (some ⟨b, o, none⟩)] w (T.Post (schP ps) w b o (T.st ps bs r))
theorem Tape.itm_hash (T : Tape) : T.Itm T.Fh T.X [.hsh] := fun w bs b o r hI hb hO hl hr hs => by
  have hl8 : r.length = 8 := hl
  have ht : r.take 8 = r := List.take_of_length_le (by omega)
  have e : T.st [.hsh] bs r = T.stH bs r := by rw [T.st_hsh, ht]
  rw [e] at hs ⊢
  refine (T.hashC w bs b o r hI hb hO hl8 (rg_byt (k := 8) hr hl8) hs).mono fun x w' h => ?_
  rcases h with ⟨p, h1, h2, h3, h4, h5⟩ | ⟨h1, h2, h3⟩
  · rw [h1]
    refine ⟨h2, h3, h4, ?_⟩
    show w'.rangeAt b o (vals (List.replicate 8 none) p.2)
    rw [vals_byt 8 _ (T.lenH hl8 h1)]
    exact h5
  · rw [h1]
    exact ⟨h2, h3⟩
structure MidR (T : Tape) (ps : List Pc) (w : World) (g off : Nat) (bs : List Int) (rs : List (List Int)) (k : Nat) (w1 : World) (bs1 : List Int) (rs1 : List (List Int)) : Prop where
  st : T.stR ps bs (rs.take k) = some (bs1, rs1)
  len : rs1.length = k
  I : T.I w1 bs1
  size : w.heap.size ≤ w1.heap.size
  own : ∀ q, q < w.heap.size → T.Own w q → T.Own w1 q
  els : ∀ q, q < w.heap.size → T.Own w q → q ≠ g ∨ T.ro = true → w1.heap[q]? = w.heap[q]?
  done : ∀ j, j < k → w1.rangeAt g (off + j * (schP ps).length) (vals (schP ps) (rcd rs1 j))
  left : ∀ j, k ≤ j → j < rs.length → w1.rangeAt g (off + j * (schP ps).length) (vals (schP ps) (rcd rs j))
theorem rcd_get' {rs : List (List Int)} {j : Nat} (h : j < rs.length) : rcd rs j = rs[j] := by simp [rcd, List.getD, h]
theorem rcd_app1 {rs : List (List Int)} {r : List Int} {j : Nat} (h : j < rs.length) : rcd (rs ++ [r]) j = rcd rs j := by
  rw [rcd_get' h, rcd_get' (by rw [List.length_append]; omega), List.getElem_append_left h]
theorem rcd_app2 {rs : List (List Int)} {r : List Int} : rcd (rs ++ [r]) rs.length = r := by
  rw [rcd_get' (by simp)]; simp
theorem take_rcd {rs : List (List Int)} {k : Nat} (h : k < rs.length) : rs.take (k + 1) = rs.take k ++ [rcd rs k] := by
  rw [rcd_get' h, List.take_append_getElem]
variable {T : Tape} {ps : List Pc} {w w1 w2 : World} {g off k : Nat} {bs bs1 : List Int} {rs rs1 : List (List Int)}
theorem MidR.fail (M : MidR T ps w g off bs rs k w1 bs1 rs1) (hk : k < rs.length) (h : T.st ps bs1 (rcd rs k) = none) : T.stR ps bs rs = none := by
  have e : rs = rs.take (k + 1) ++ rs.drop (k + 1) := (List.take_append_drop _ _).symm
  rw [e, T.stR_app, take_rcd hk, T.stR_app, M.st]
  simp only [Option.bind_some, Tape.stR, h, Option.bind_none]
theorem apart {L off j k : Nat} (h : j ≠ k) : off + j * L + L ≤ off + k * L ∨ off + k * L + L ≤ off + j * L := by
  rcases Nat.lt_or_gt_of_ne h with h | h
  · left
    have := Nat.mul_le_mul_right L (show j + 1 ≤ k by omega)
    rw [Nat.add_mul] at this
    omega
  · right
    have := Nat.mul_le_mul_right L (show k + 1 ≤ j by omega)
    rw [Nat.add_mul] at this
    omega
theorem MidR.next {p : List Int × List Int} (M : MidR T ps w g off bs rs k w1 bs1 rs1) (hlen : ∀ r ∈ rs, r.length = (schP ps).length) (hk : k < rs.length) (hst : T.st ps bs1 (rcd rs k) = some p) (hI : T.I w2 p.1) (hc : Ch T.Own T.ro w1 w2 g (off + k * (schP ps).length) (schP ps).length)
    (hr : w2.rangeAt g (off + k * (schP ps).length) (vals (schP ps) p.2)) : MidR T ps w g off bs rs (k + 1) w2 p.1 (rs1 ++ [p.2]) := by
  have hl : ∀ j, j < rs.length → (rcd rs j).length = (schP ps).length := fun j hj => by rw [rcd_get' hj]; exact hlen _ (List.getElem_mem hj)
  have hl1 : ∀ j, j < k → (rcd rs1 j).length = (schP ps).length := fun j hj => by
    rw [rcd_get' (by rw [M.len]; exact hj)]
    exact T.stR_all ps _ _ _ (fun r hr => hlen r (List.mem_of_mem_take hr)) M.st _ (List.getElem_mem _)
  refine ⟨?_, by rw [List.length_append, M.len]; rfl, hI, Nat.le_trans M.size hc.size, fun q hq hO => hc.own q (Nat.lt_of_lt_of_le hq M.size) (M.own q hq hO),
    fun q hq hO e => (hc.els q (Nat.lt_of_lt_of_le hq M.size) (M.own q hq hO) e).trans (M.els q hq hO e), fun j hj => ?_, fun j h1 h2 => ?_⟩
  · rw [take_rcd hk, T.stR_app, M.st]
    simp only [Option.bind_some, Tape.stR, hst]
  · by_cases hjk : j = k
    · subst hjk
      have := rcd_app2 (rs := rs1) (r := p.2)
      rw [M.len] at this
      rw [this]
      exact hr
    · rw [rcd_app1 (by rw [M.len]; omega)]
      refine hc.range (M.done j (by omega)) ?_
      rw [vals_len (hl1 j (by omega))]
      exact apart hjk
  · refine hc.range (M.left j (by omega) h2) ?_
    rw [vals_len (hl j h2)]
    exact apart (by omega)
theorem made_range {w : World} {base g m L : Nat} {e : TypeId} {S : Sch} {cs : Array Value} (hL : S.length = L) (hz : cs = (vals S (zeros L)).toArray) (h : w.ownsRow base e L (.slice (some ⟨g, 0, none⟩) m m) m (madeCells cs (m * L)).toList) {j : Nat} (hj : j < m) : w.rangeAt g (0 + j * L) (vals S (zeros L)) := by
  intro i v hv
  have hl : (vals S (zeros L)).length = L := by rw [vals_len (by rw [zeros_len, hL]), hL]
  have hi : i < L := by rw [← hl]; exact (List.getElem?_eq_some_iff.1 hv).1
  have hb : j * L + i < m * L := by
    have := Nat.mul_le_mul_right L (show j + 1 ≤ m by omega)
    rw [Nat.add_mul] at this
    omega
  rw [Nat.zero_add, h.cellAt (j * L + i) hb]
  have hs : cs.size = L := by rw [hz, List.size_toArray, hl]
  have hm : (j * L + i) % L = i := by rw [Nat.mul_comm, Nat.mul_add_mod, Nat.mod_eq_of_lt hi]
  rw [madeCells, Array.getElem?_toList, Array.getElem?_map, Array.getElem?_range, if_pos hb]
  simp only [Option.map_some]
  rw [hs, hm, ← hv, hz]
  simp [hl, hi]
theorem frz_new (w : World) (cs : Array Value) (t : TypeId) (i : Nat) : (w.alloc (.cells cs t)).frozen? ⟨w.heap.size, i, none⟩ = false := by
  unfold World.frozen?
  rw [show (w.alloc (.cells cs t)).heap[w.heap.size]? = some (.cells cs t (0, 0)) from heap_alloc_last w _]
  simp
theorem mids {S : Sch} {A : Option Addr} {N : Nat} (rs : List (List Int)) (hrow : RowIn T S w A rs N) : ∃ g off, (rs = [] ∧ w.heap.size ≤ g) ∨ (A = some ⟨g, off, none⟩ ∧ T.Own w g ∧ g < w.heap.size ∧ (N ≤ g ∨ T.ro = true) ∧ ∀ j, j < rs.length → w.rangeAt g (off + j * S.length) (vals S (rcd rs j))) := by
  rcases hrow with h | ⟨g, off, h⟩
  · exact ⟨w.heap.size, 0, .inl ⟨h, Nat.le_refl _⟩⟩
  · exact ⟨g, off, .inr h⟩
end Go.Proofs.YtffaddefnpkcgaaGreatDoor
namespace Go.Proofs.YtffaddefnpkcgaaGreatDoor
open Go.RowKit
set_option maxRecDepth 100000
attribute [local irreducible] ua da ba kk sw S8.run rt hs comp splice outB sha msg zeros win bvals vals cel seg
theorem inP_info : (Tryz.prog.info? 63).map (fun i => (i.zero, i.size, i.bytes)) = some (some (.agg (vals (schP inP) (zeros 298)).toArray), 298, 312) := by kernel_rfl
theorem sgnP_info : (Tryz.prog.info? 66).map (fun i => (i.zero, i.size, i.bytes)) = some (some (.agg (vals (schP sgnP) (zeros 282)).toArray), 282, 296) := by kernel_rfl
theorem in_len : (schP inP).length = 298 := by
  unfold inP
  rw [schP_app, schP_app, schP_app, List.length_append, List.length_append, List.length_append, sig_len]
  rfl
theorem sgn_len : (schP sgnP).length = 282 := by
  unfold sgnP
  rw [schP_app, List.length_append, sig_len]
  rfl
attribute [local irreducible] Tape.st schP List.replicate inP sgnP
set_option maxHeartbeats 8000000 in
theorem lIn (T : Tape) : T.Lst 61 (.func (.func 62) #[] #[]) inP := by
  intro w bs b o A c rs hI hb hO hL hro hs
  obtain ⟨n, hn⟩ : ∃ n, rs.length = n := ⟨_, rfl⟩
  have k0 : w.cell? ⟨b, o, none⟩ = some (.slice A n c) := by rw [← hn]; exact hL.cell
  have HN := Lib.hid hn
  have HI := Lib.hid hI
  have HB := Lib.hid hb
  have HO := Lib.hid hO
  have HL := Lib.hid hL
  have HR := Lib.hid hro
  have HS := Lib.hid hs
  have hnc : n ≤ c := by rw [← hn]; exact hL.le
  have hcm : c ≤ 9223372036854775807 := by have := hL.mx; unfold maxLen at this; omega
  clear hI hb hO hL hro hs hn
  go_enter Tryz.func61, Tryz.ntmps61
  go_upto_region 1 with (fail)
  rename_i K hKK
  obtain ⟨N, hN⟩ : ∃ N, w.heap.size = N := ⟨_, rfl⟩
  have NN := Lib.hid hN
  rw [hN]
  have SZ : Hid ((w.alloc (Obj.cells #[.int .i64 n] 3)).heap.size = N + 1) := by show _ = _; rw [World.size_alloc, NN.out]
  have BK : Hid (∀ q, q < N → (w.alloc (Obj.cells #[.int .i64 n] 3)).heap[q]? = w.heap[q]?) := fun q hq => Below.heap_alloc w _ q (by rw [NN.out]; exact hq)
  have SM := Lib.hid (T.same w (w.alloc (Obj.cells #[.int .i64 n] 3)) bs HI.out rfl rfl rfl (by simp) (fun q hq => Below.heap_alloc w _ q hq))
  have VN : Hid (T.Own (w.alloc (Obj.cells #[.int .i64 n] 3)) N) := T.fresh w _ bs N HI.out SM.out.1 (fun q hq => Below.heap_alloc w _ q hq) (by rw [NN.out]; exact Nat.le_refl _) (fun i => by rw [← NN.out]; exact frz_new w #[.int .i64 n] 3 i)
  have VC : Hid ((w.alloc (Obj.cells #[.int .i64 n] 3)).cell? ⟨N, 0, none⟩ = some (.int .i64 n)) := by rw [← NN.out]; exact cell_of_one (heap_alloc_last w _)
  have HB2 : Hid (b < N) := by rw [← NN.out]; exact HB.out
  have FL : Hid (T.stN 1 bs n = none → T.stL inP bs rs = none) := fun h => by unfold Tape.stL; rw [HN.out, h]; rfl
  clear hN k0
  generalize (w.alloc (Obj.cells #[.int .i64 n] 3)) = v at *
  refine wp_region_lit ?_
  refine wpList_t (v := T.V) (by rfl) (by go_simp) ?_
  simp only [Act.put, ly4, ly5, ly6]
  refine wpList_enter (by rfl) (run_invN T (by rfl) (by rfl) (by rfl) (by rfl)) ((T.numC v bs N 0 n 1 (by decide) (by decide) SM.out.1 (by rw [SZ.out]; omega) VN.out VC.out (fun h => HS.out (FL.out h))).mono ?_)
  rintro e v1 (⟨p, hp, rfl, hI1, hC1, hc1⟩ | ⟨hn, hse, hJ⟩)
  rotate_left
  · unfold Short at hse
    subst hse
    refine ⟨rfl, ?_⟩
    rw [FL.out hn]
    exact ⟨rfl, hJ⟩
  simp only [Act.put, ly4, ly5, ly6]
  refine wpList_nil ?_
  show K _ _
  refine hKK _ _ ?_
  clear hKK K FL
  obtain ⟨bs1, x1⟩ := p
  dsimp only at hI1 hc1
  have I1 := Lib.hid hI1
  have P1 := Lib.hid hp
  have K0 : Hid (∀ q, q < N → T.Own w q → v1.heap[q]? = w.heap[q]? ∧ T.Own v1 q) := fun q hq ho => by
    have o1 := SM.out.2 q (by rw [NN.out]; exact hq) ho
    exact ⟨(hC1.els q (by rw [SZ.out]; omega) o1 (.inl (by omega))).trans (BK.out q hq), hC1.own q (by rw [SZ.out]; omega) o1⟩
  have S1 : Hid (N < v1.heap.size) := by show _ < _; have := hC1.size; rw [SZ.out] at this; omega
  have L1 : Hid (LstAt T (schP inP) v1 b o rs 0 A c) := HL.out.keep (fun q hq ho => K0.out q (by rw [← NN.out]; exact hq) ho) (by rw [NN.out]; exact Nat.le_of_lt S1.out) HB.out HO.out
  have OB : Hid (T.Own v1 b) := (K0.out b HB2.out HO.out).2
  have NB : Hid (b ≠ N) := Nat.ne_of_lt HB2.out
  clear hI1 hp hC1 SM VN VC SZ BK HL
  have k0 : v1.cell? ⟨b, o, none⟩ = some (.slice A n c) := by rw [← HN.out]; exact L1.out.cell
  have k1 := hc1
  clear hc1
  go_upto_region 3 with (fail)
  go_quiet (fail)
  rename_i K1 hK1 K hKK
  have REST : ∀ (w2 : World) (A2 : Option Addr) (c2 : Nat) (rs2 : List (List Int)) (z8 z9 z10 z11 z12 z13 z14 z15 z16 z17 z18 z19 y0 y1 y2 y3 : Value), T.I w2 bs1 → b < w2.heap.size → T.Own w2 b → LstAt T (schP inP) w2 b o rs2 N A2 c2 → Ch T.Own T.ro w w2 b o 1 → T.stL inP bs rs = T.stR inP bs1 rs2 →
      K1 { tmps := #[T.V, .pointer (some ⟨b, o, none⟩), .func (.func 62) #[] #[], undef, undef, undef, .pointer (some ⟨N, 0, none⟩), undef, z8, z9, z10, z11, z12, z13, z14, z15, z16, z17, z18, z19, y0, y1, y2, y3, undef, undef, undef, undef, undef, undef, undef, undef, undef, undef, undef, undef, undef, undef, undef, undef], defers := [] } w2 := by
    intro w2 A2 c2 rs2 z8 z9 z10 z11 z12 z13 z14 z15 z16 z17 z18 z19 y0 y1 y2 y3 hI2 hb2 hO2 hL2 hC2 hst
    refine hK1 _ _ ?_
    clear hK1 hKK K K1
    obtain ⟨n2, hn2⟩ : ∃ n2, rs2.length = n2 := ⟨_, rfl⟩
    obtain ⟨g, off, hrow⟩ := mids rs2 hL2.row
    have HN2 := Lib.hid hn2
    have I2 := Lib.hid hI2
    have HB3 := Lib.hid hb2
    have HO3 := Lib.hid hO2
    have L2 := Lib.hid hL2
    have C2 := Lib.hid hC2
    have ST := Lib.hid hst
    have RW := Lib.hid hrow
    have hnc2 : n2 ≤ c2 := by rw [← hn2]; exact hL2.le
    have hcm2 : c2 ≤ 9223372036854775807 := by have := hL2.mx; unfold maxLen at this; omega
    have k2 : w2.cell? ⟨b, o, none⟩ = some (.slice A2 n2 c2) := by rw [← hn2]; exact hL2.cell
    have M0 : Hid (MidR T inP w2 g off bs1 rs2 0 w2 bs1 []) := ⟨rfl, rfl, hI2, Nat.le_refl _, fun _ _ h => h, fun _ _ _ _ => rfl, fun j hj => by omega, fun j _ hj => by
      rcases hrow with ⟨h, _⟩ | ⟨_, _, _, _, h⟩
      · rw [h] at hj; simp at hj
      · exact h j hj⟩
    clear hn2 hI2 hb2 hO2 hL2 hC2 hst hrow k0 k1
    have LQ : Hid ((schP inP).length = 298) := in_len
    go_wp2
    clear k2
    go_loopw [28] (fun i wr => ∃ k : Nat, k ≤ n2 ∧ i = .int .i64 k ∧ ∃ bsk rsk, MidR T inP w2 g off bs1 rs2 k wr bsk rsk) (fun i _ => n2 - (intOf i).toNat)
    case atStart => exact ⟨0, Nat.zero_le _, rfl, bs1, [], M0.out⟩
    case round =>
      obtain ⟨k, hk, rfl, bsk, rsk, hM⟩ := hrel
      have HM := Lib.hid hM
      clear hM
      by_cases hlt : k < n2
      · have hlt2 : k < rs2.length := by rw [HN2.out]; exact hlt
        have RW2 : Hid (A2 = some ⟨g, off, none⟩ ∧ T.Own w2 g ∧ g < w2.heap.size ∧ (N ≤ g ∨ T.ro = true)) := by
          rcases RW.out with ⟨h, _⟩ | ⟨h1, h2, h3, h4, _⟩
          · rw [h] at hlt2; simp at hlt2
          · exact ⟨h1, h2, h3, h4⟩
        have s0 : (0 : Int) ≤ (k : Int) := by omega
        have s1 : (k : Int) < (n2 : Int) := by omega
        have k2 : wr.cell? ⟨b, o, none⟩ = some (.slice (some ⟨g, off, none⟩) n2 c2) := by
          have e := L2.out.cell
          rw [HN2.out, RW2.out.1] at e
          rw [← e]
          simp only [World.cell?, HM.out.els b HB3.out HO3.out (by rcases RW2.out.2.2.2 with h | h <;> first | exact .inr h | exact .inl (by have := HB2.out; omega))]
        have FL : Hid (T.st inP bsk (rcd rs2 k) = none → T.stL inP bs rs = none) := fun h => by rw [ST.out]; exact HM.out.fail hlt2 h
        have LK : Hid ((rcd rs2 k).length = (schP inP).length) := by show _ = _; rw [rcd_get' hlt2]; exact L2.out.len _ (List.getElem_mem hlt2)
        have RK : Hid (wr.rangeAt g (off + k * 298) (vals (schP inP) (rcd rs2 k))) := by have h := HM.out.left k (Nat.le_refl _) hlt2; rw [LQ.out] at h; exact h
        have OK : Hid (T.Own wr g) := HM.out.own g RW2.out.2.2.1 RW2.out.2.1
        have GK : Hid (g < wr.heap.size) := Nat.lt_of_lt_of_le RW2.out.2.2.1 HM.out.size
        have HK := Lib.hid hlt2
        clear hlt2
        go_wp2_with fail
        refine ((show T.Itm 62 T.V inP from fIn T) wr bsk g (off + k * 298) (rcd rs2 k) HM.out.I GK.out OK.out LK.out RK.out (fun h => HS.out (FL.out h))).mono ?_
        intro e wn hpost
        cases hq : T.st inP bsk (rcd rs2 k) with
        | none =>
          rw [hq] at hpost
          obtain ⟨hse, hJ⟩ := hpost
          unfold Short at hse
          subst hse
          refine ⟨rfl, ?_⟩
          rw [FL.out hq]
          exact ⟨rfl, hJ⟩
        | some pn =>
          rw [hq] at hpost
          obtain ⟨rfl, hI', hC', hr'⟩ := hpost
          have hM := HM.out
          have hll := L2.out.len
          have hkk := HK.out
          have hC2 : Ch T.Own T.ro wr wn g (off + k * (schP inP).length) (schP inP).length := by rw [LQ.out] at hC' ⊢; exact hC'
          have hr2 : wn.rangeAt g (off + k * (schP inP).length) (vals (schP inP) pn.2) := by rw [LQ.out]; exact hr'
          have hM1 := hM.next hll hkk hq hI' hC2 hr2
          have M1 := Lib.hid hM1
          clear hM hll hkk hM1 hq hI' hC' hr' hC2 hr2 k2 FL LK RK OK GK HK
          go_wp2
          go_roundw
          case rel => exact ⟨k + 1, by omega, by simp, _, _, M1.out⟩
          case measure => simp [intOf]; omega
      · have hkn : k = n2 := by omega
        subst hkn
        have s1 : ¬ (k : Int) < (k : Int) := by omega
        go_wp2
        go_end0
        have hM := HM.out
        have e := hM.st
        rw [List.take_of_length_le (by rw [HN2.out]; exact Nat.le_refl _)] at e
        rw [ST.out, e]
        have hlr : rsk.length = rs2.length := by rw [hM.len, HN2.out]
        have hbk : wr.heap[b]? = w2.heap[b]? := hM.els b HB3.out HO3.out (by
          rcases RW.out with ⟨_, h⟩ | ⟨_, _, _, h, _⟩
          · exact .inl (by have := HB3.out; omega)
          · rcases h with h | h
            · exact .inl (by have := HB2.out; omega)
            · exact .inr h)
        refine ⟨rfl, hM.I, ?_, A2, c2, ?_⟩
        · refine ⟨Nat.le_trans C2.out.size hM.size, fun q hq ho => hM.own q (Nat.lt_of_lt_of_le hq C2.out.size) (C2.out.own q hq ho), fun q hq ho hne => ?_, fun i hi => ?_⟩
          · refine (hM.els q (Nat.lt_of_lt_of_le hq C2.out.size) (C2.out.own q hq ho) ?_).trans (C2.out.els q hq ho hne)
            rcases RW.out with ⟨_, h⟩ | ⟨_, _, _, h, _⟩
            · exact .inl (by have := C2.out.size; omega)
            · rcases h with h | h
              · exact .inl (by rw [NN.out] at hq; omega)
              · exact .inr h
          · rw [← C2.out.cell i hi]
            simp only [World.cell?, hbk]
        · have hl2 := L2.out
          refine ⟨by simp only [World.cell?, hbk]; rw [hlr]; exact hl2.cell, by rw [hlr]; exact hl2.le, hl2.mx, hl2.no, T.stR_all _ _ _ _ hl2.len e, ?_⟩
          rcases RW.out with ⟨h, _⟩ | ⟨h1, h2, h3, h4, _⟩
          · left
            exact List.eq_nil_of_length_eq_zero (by rw [hlr, h]; rfl)
          · right
            refine ⟨g, off, h1, hM.own g h3 h2, Nat.lt_of_lt_of_le h3 hM.size, ?_, fun j hj => hM.done j (by rw [hlr, HN2.out] at hj; exact hj)⟩
            rw [NN.out]
            exact h4
  have DS := Lib.hid (T.same v1 (v1.drewN nq) bs1 I1.out rfl rfl rfl (Nat.le_refl _) (fun _ _ => rfl))
  have CD : Hid (Ch T.Own T.ro w (v1.drewN nq) b o 1) := ⟨by rw [NN.out]; exact Nat.le_of_lt S1.out, fun q hq ho => DS.out.2 q (by rw [NN.out] at hq; have := S1.out; omega) (K0.out q (by rw [← NN.out]; exact hq) ho).2, fun q hq ho _ => (K0.out q (by rw [← NN.out]; exact hq) ho).1, fun i _ => by
    show v1.cell? _ = _
    simp only [World.cell?, (K0.out b HB2.out HO.out).1]⟩
  have SD : Hid (N < (v1.drewN nq).heap.size) := S1.out
  have OD : Hid (T.Own (v1.drewN nq) b) := DS.out.2 b (by have := S1.out; have := HB2.out; omega) OB.out
  have LD : Hid (LstAt T (schP inP) (v1.drewN nq) b o rs 0 A c) := L1.out.keep (fun q hq ho => ⟨rfl, DS.out.2 q hq ho⟩) (Nat.le_refl _) (by have := S1.out; have := HB2.out; omega) OB.out
  have k2 : (v1.drewN nq).cell? ⟨N, 0, none⟩ = some (.int .i64 x1) := k1
  have k3 : (v1.drewN nq).cell? ⟨b, o, none⟩ = some (.slice A n c) := k0
  show K _ _
  refine hKK _ _ ?_
  clear hKK K k0 k1 K0 L1 S1 OB hK1
  generalize (v1.drewN nq) = v2 at *
  by_cases hx : x1 = (n : Int)
  · have hbx : (x1 != (n : Int)) = false := by simp [hx]
    have HX := Lib.hid hx
    clear hx
    go_wp2
    refine REST v2 A c rs _ _ _ _ _ _ _ _ _ _ _ _ _ _ _ _ DS.out.1 (by have := SD.out; have := HB2.out; omega) OD.out ?_ CD.out ?_
    · have h := LD.out
      refine ⟨h.cell, h.le, h.mx, h.no, h.len, ?_⟩
      rcases HR.out with hr | hr
      · rcases h.row with g | ⟨g, off, e, h1, h2, h3, h4⟩
        · exact .inl g
        · exact .inr ⟨g, off, e, h1, h2, .inr hr, h4⟩
      · exact .inl hr
    · unfold Tape.stL
      rw [HN.out, P1.out]
      simp only [Option.bind_some]
      unfold rowsOf
      rw [HN.out, if_pos HX.out]
  · have hbx : (x1 != (n : Int)) = true := by simpa using hx
    obtain ⟨hro, h0, h256⟩ : T.ro = false ∧ 0 ≤ x1 ∧ x1 < 256 := by
      rcases T.byt1 _ _ _ P1.out with h | h
      · exact absurd h hx
      · exact h
    have hrs : rs = [] := by
      rcases HR.out with h | h
      · rw [h] at hro; cases hro
      · exact h
    obtain ⟨m, rfl⟩ := Int.eq_ofNat_of_zero_le h0
    have HRS := Lib.hid hrs
    have HRO := Lib.hid hro
    have HX := Lib.hid hx
    obtain ⟨i0, hi, hz0, hz1, hz2⟩ := info_parts inP_info
    have HI9 := Lib.hid hi
    have HI0 := Lib.hid hz0
    have HI1 := Lib.hid hz1
    have HI2 := Lib.hid hz2
    have hm256 : m < 256 := by omega
    clear hi hz0 hz1 hz2 hx hro h0 hrs
    go_wp2_with (refine wpList_make_full _ rfl (.tmp 21) (.tmp 21) 22 rfl N 63 i0 _ 298 Tryz.underlying22 HI9.out HI0.out HI1.out   .i64 .i64 m m m rfl rfl rfl rfl (by rw [HI2.out]; omega) (by unfold maxLen; omega) (by have := SD.out; omega) ?_; intro w3 hown hg; have hk := (fun q (hq : q < v2.heap.size) => hg.block q hq (by intro h; cases h)); have OW := Lib.hid hown; have GR := Lib.hid hg; have HK := Lib.hid hk; have e3 : w3.cell? ⟨b, o, none⟩ = some (.slice A n c) := (by simp only [World.cell?, hk b (by have := SD.out; have := HB2.out; omega)]; have h := LD.out.cell; rw [HN.out] at h; exact h); have SA := Lib.hid (T.same v2 w3 bs1 DS.out.1 hg.os hg.tape hg.output hg.size hk); have f3 : w3.frozen? ⟨b, o, none⟩ = false := T.free HRO.out w3 b (SA.out.2 b (by have := SD.out; have := HB2.out; omega) OD.out) o; clear hown hg hk)
    have HG : Hid (v2.heap.size < w3.heap.size) := (OW.out.lt v2.heap.size rfl).2
    have hb2 : b < v2.heap.size := by have := SD.out; have := HB2.out; omega
    have OB3 := SA.out.2 b hb2 OD.out
    have ST3 := Lib.hid (T.store HRO.out w3 bs1 b o (.slice (some ⟨v2.heap.size, 0, none⟩) m m) SA.out.1 OB3)
    have OG3 : Hid (T.Own w3 v2.heap.size) := T.fresh v2 w3 bs1 _ DS.out.1 SA.out.1 HK.out (Nat.le_refl _) (fun i => OW.out.frozenAt i)
    have hnb : v2.heap.size ≠ b := by omega
    have LQ : (schP inP).length = 298 := in_len
    refine REST _ (some ⟨v2.heap.size, 0, none⟩) m (List.replicate m (zeros 298)) _ _ _ _ _ _ _ _ _ _ _ _ _ _ _ _ ST3.out.1 (by have := HG.out; simp [World.setCell]; omega) (ST3.out.2 b OB3) ?_ ?_ ?_
    · have hrl : (List.replicate m (zeros 298)).length = m := List.length_replicate
      refine ⟨?_, by rw [hrl]; exact Nat.le_refl _, by unfold maxLen; omega, fun h => by (cases h), fun r hr => by rw [List.eq_of_mem_replicate hr, zeros_len]; exact LQ.symm, .inr ⟨v2.heap.size, 0, rfl, ST3.out.2 _ OG3.out, by have := HG.out; simp [World.setCell]; omega, .inl (Nat.le_of_lt SD.out), fun j hj => ?_⟩⟩
      · rw [hrl, World.cell?_setCell_same _ _ _ e3]
      · rw [hrl] at hj
        have hz : rcd (List.replicate m (zeros 298)) j = zeros 298 := by rw [rcd_get' (by rw [hrl]; exact hj)]; simp
        rw [hz]
        exact range_keep1 (by rw [LQ]; exact made_range (S := schP inP) LQ rfl OW.out hj) (heap_setCell_other _ _ _ _ hnb)
    · refine ⟨?_, fun q hq ho => ST3.out.2 q (SA.out.2 q (Nat.lt_of_lt_of_le hq CD.out.size) (CD.out.own q hq ho)), fun q hq ho hne => ?_, fun i hi => ?_⟩
      · have := CD.out.size; have := GR.out.size; simp [World.setCell]; omega
      · have hqb : q ≠ b := by
          rcases hne with h | h
          · exact h
          · rw [HRO.out] at h; cases h
        rw [heap_setCell_other _ _ _ _ hqb, HK.out q (Nat.lt_of_lt_of_le hq CD.out.size)]
        exact CD.out.els q hq ho hne
      · rw [World.cell?_setCell_other _ _ _ _ (by intro h; simp only [Addr.mk.injEq] at h; omega)]
        simp only [World.cell?, HK.out b hb2]
        exact CD.out.cell i hi
    · unfold Tape.stL
      rw [HN.out, P1.out]
      simp only [Option.bind_some]
      unfold rowsOf
      rw [HN.out, if_neg HX.out, Int.toNat_natCast, LQ]
set_option maxHeartbeats 8000000 in
theorem lSgn (T : Tape) : T.Lst 96 (.func (.func 97) #[] #[]) sgnP := by
  intro w bs b o A c rs hI hb hO hL hro hs
  obtain ⟨n, hn⟩ : ∃ n, rs.length = n := ⟨_, rfl⟩
  have k0 : w.cell? ⟨b, o, none⟩ = some (.slice A n c) := by rw [← hn]; exact hL.cell
  have HN := Lib.hid hn
  have HI := Lib.hid hI
  have HB := Lib.hid hb
  have HO := Lib.hid hO
  have HL := Lib.hid hL
  have HR := Lib.hid hro
  have HS := Lib.hid hs
  have hnc : n ≤ c := by rw [← hn]; exact hL.le
  have hcm : c ≤ 9223372036854775807 := by have := hL.mx; unfold maxLen at this; omega
  clear hI hb hO hL hro hs hn
  go_enter Tryz.func96, Tryz.ntmps96
  go_upto_region 1 with (fail)
  rename_i K hKK
  obtain ⟨N, hN⟩ : ∃ N, w.heap.size = N := ⟨_, rfl⟩
  have NN := Lib.hid hN
  rw [hN]
  have SZ : Hid ((w.alloc (Obj.cells #[.int .i64 n] 3)).heap.size = N + 1) := by show _ = _; rw [World.size_alloc, NN.out]
  have BK : Hid (∀ q, q < N → (w.alloc (Obj.cells #[.int .i64 n] 3)).heap[q]? = w.heap[q]?) := fun q hq => Below.heap_alloc w _ q (by rw [NN.out]; exact hq)
  have SM := Lib.hid (T.same w (w.alloc (Obj.cells #[.int .i64 n] 3)) bs HI.out rfl rfl rfl (by simp) (fun q hq => Below.heap_alloc w _ q hq))
  have VN : Hid (T.Own (w.alloc (Obj.cells #[.int .i64 n] 3)) N) := T.fresh w _ bs N HI.out SM.out.1 (fun q hq => Below.heap_alloc w _ q hq) (by rw [NN.out]; exact Nat.le_refl _) (fun i => by rw [← NN.out]; exact frz_new w #[.int .i64 n] 3 i)
  have VC : Hid ((w.alloc (Obj.cells #[.int .i64 n] 3)).cell? ⟨N, 0, none⟩ = some (.int .i64 n)) := by rw [← NN.out]; exact cell_of_one (heap_alloc_last w _)
  have HB2 : Hid (b < N) := by rw [← NN.out]; exact HB.out
  have FL : Hid (T.stN 1 bs n = none → T.stL sgnP bs rs = none) := fun h => by unfold Tape.stL; rw [HN.out, h]; rfl
  clear hN k0
  generalize (w.alloc (Obj.cells #[.int .i64 n] 3)) = v at *
  refine wp_region_lit ?_
  refine wpList_t (v := T.V) (by rfl) (by go_simp) ?_
  simp only [Act.put, ly4, ly5, ly6]
  refine wpList_enter (by rfl) (run_invN T (by rfl) (by rfl) (by rfl) (by rfl)) ((T.numC v bs N 0 n 1 (by decide) (by decide) SM.out.1 (by rw [SZ.out]; omega) VN.out VC.out (fun h => HS.out (FL.out h))).mono ?_)
  rintro e v1 (⟨p, hp, rfl, hI1, hC1, hc1⟩ | ⟨hn, hse, hJ⟩)
  rotate_left
  · unfold Short at hse
    subst hse
    refine ⟨rfl, ?_⟩
    rw [FL.out hn]
    exact ⟨rfl, hJ⟩
  simp only [Act.put, ly4, ly5, ly6]
  refine wpList_nil ?_
  show K _ _
  refine hKK _ _ ?_
  clear hKK K FL
  obtain ⟨bs1, x1⟩ := p
  dsimp only at hI1 hc1
  have I1 := Lib.hid hI1
  have P1 := Lib.hid hp
  have K0 : Hid (∀ q, q < N → T.Own w q → v1.heap[q]? = w.heap[q]? ∧ T.Own v1 q) := fun q hq ho => by
    have o1 := SM.out.2 q (by rw [NN.out]; exact hq) ho
    exact ⟨(hC1.els q (by rw [SZ.out]; omega) o1 (.inl (by omega))).trans (BK.out q hq), hC1.own q (by rw [SZ.out]; omega) o1⟩
  have S1 : Hid (N < v1.heap.size) := by show _ < _; have := hC1.size; rw [SZ.out] at this; omega
  have L1 : Hid (LstAt T (schP sgnP) v1 b o rs 0 A c) := HL.out.keep (fun q hq ho => K0.out q (by rw [← NN.out]; exact hq) ho) (by rw [NN.out]; exact Nat.le_of_lt S1.out) HB.out HO.out
  have OB : Hid (T.Own v1 b) := (K0.out b HB2.out HO.out).2
  have NB : Hid (b ≠ N) := Nat.ne_of_lt HB2.out
  clear hI1 hp hC1 SM VN VC SZ BK HL
  have k0 : v1.cell? ⟨b, o, none⟩ = some (.slice A n c) := by rw [← HN.out]; exact L1.out.cell
  have k1 := hc1
  clear hc1
  go_upto_region 3 with (fail)
  go_quiet (fail)
  rename_i K1 hK1 K hKK
  have REST : ∀ (w2 : World) (A2 : Option Addr) (c2 : Nat) (rs2 : List (List Int)) (z8 z9 z10 z11 z12 z13 z14 z15 z16 z17 z18 z19 y0 y1 y2 y3 : Value), T.I w2 bs1 → b < w2.heap.size → T.Own w2 b → LstAt T (schP sgnP) w2 b o rs2 N A2 c2 → Ch T.Own T.ro w w2 b o 1 → T.stL sgnP bs rs = T.stR sgnP bs1 rs2 →
      K1 { tmps := #[T.V, .pointer (some ⟨b, o, none⟩), .func (.func 97) #[] #[], undef, undef, undef, .pointer (some ⟨N, 0, none⟩), undef, z8, z9, z10, z11, z12, z13, z14, z15, z16, z17, z18, z19, y0, y1, y2, y3, undef, undef, undef, undef, undef, undef, undef, undef, undef, undef, undef, undef, undef, undef, undef, undef], defers := [] } w2 := by
    intro w2 A2 c2 rs2 z8 z9 z10 z11 z12 z13 z14 z15 z16 z17 z18 z19 y0 y1 y2 y3 hI2 hb2 hO2 hL2 hC2 hst
    refine hK1 _ _ ?_
    clear hK1 hKK K K1
    obtain ⟨n2, hn2⟩ : ∃ n2, rs2.length = n2 := ⟨_, rfl⟩
    obtain ⟨g, off, hrow⟩ := mids rs2 hL2.row
    have HN2 := Lib.hid hn2
    have I2 := Lib.hid hI2
    have HB3 := Lib.hid hb2
    have HO3 := Lib.hid hO2
    have L2 := Lib.hid hL2
    have C2 := Lib.hid hC2
    have ST := Lib.hid hst
    have RW := Lib.hid hrow
    have hnc2 : n2 ≤ c2 := by rw [← hn2]; exact hL2.le
    have hcm2 : c2 ≤ 9223372036854775807 := by have := hL2.mx; unfold maxLen at this; omega
    have k2 : w2.cell? ⟨b, o, none⟩ = some (.slice A2 n2 c2) := by rw [← hn2]; exact hL2.cell
    have M0 : Hid (MidR T sgnP w2 g off bs1 rs2 0 w2 bs1 []) := ⟨rfl, rfl, hI2, Nat.le_refl _, fun _ _ h => h, fun _ _ _ _ => rfl, fun j hj => by omega, fun j _ hj => by
      rcases hrow with ⟨h, _⟩ | ⟨_, _, _, _, h⟩
      · rw [h] at hj; simp at hj
      · exact h j hj⟩
    clear hn2 hI2 hb2 hO2 hL2 hC2 hst hrow k0 k1
    have LQ : Hid ((schP sgnP).length = 282) := sgn_len
    go_wp2
    clear k2
    go_loopw [28] (fun i wr => ∃ k : Nat, k ≤ n2 ∧ i = .int .i64 k ∧ ∃ bsk rsk, MidR T sgnP w2 g off bs1 rs2 k wr bsk rsk) (fun i _ => n2 - (intOf i).toNat)
    case atStart => exact ⟨0, Nat.zero_le _, rfl, bs1, [], M0.out⟩
    case round =>
      obtain ⟨k, hk, rfl, bsk, rsk, hM⟩ := hrel
      have HM := Lib.hid hM
      clear hM
      by_cases hlt : k < n2
      · have hlt2 : k < rs2.length := by rw [HN2.out]; exact hlt
        have RW2 : Hid (A2 = some ⟨g, off, none⟩ ∧ T.Own w2 g ∧ g < w2.heap.size ∧ (N ≤ g ∨ T.ro = true)) := by
          rcases RW.out with ⟨h, _⟩ | ⟨h1, h2, h3, h4, _⟩
          · rw [h] at hlt2; simp at hlt2
          · exact ⟨h1, h2, h3, h4⟩
        have s0 : (0 : Int) ≤ (k : Int) := by omega
        have s1 : (k : Int) < (n2 : Int) := by omega
        have k2 : wr.cell? ⟨b, o, none⟩ = some (.slice (some ⟨g, off, none⟩) n2 c2) := by
          have e := L2.out.cell
          rw [HN2.out, RW2.out.1] at e
          rw [← e]
          simp only [World.cell?, HM.out.els b HB3.out HO3.out (by rcases RW2.out.2.2.2 with h | h <;> first | exact .inr h | exact .inl (by have := HB2.out; omega))]
        have FL : Hid (T.st sgnP bsk (rcd rs2 k) = none → T.stL sgnP bs rs = none) := fun h => by rw [ST.out]; exact HM.out.fail hlt2 h
        have LK : Hid ((rcd rs2 k).length = (schP sgnP).length) := by show _ = _; rw [rcd_get' hlt2]; exact L2.out.len _ (List.getElem_mem hlt2)
        have RK : Hid (wr.rangeAt g (off + k * 282) (vals (schP sgnP) (rcd rs2 k))) := by have h := HM.out.left k (Nat.le_refl _) hlt2; rw [LQ.out] at h; exact h
        have OK : Hid (T.Own wr g) := HM.out.own g RW2.out.2.2.1 RW2.out.2.1
        have GK : Hid (g < wr.heap.size) := Nat.lt_of_lt_of_le RW2.out.2.2.1 HM.out.size
        have HK := Lib.hid hlt2
        clear hlt2
        go_wp2_with fail
        refine ((show T.Itm 97 T.V sgnP from fSgn T) wr bsk g (off + k * 282) (rcd rs2 k) HM.out.I GK.out OK.out LK.out RK.out (fun h => HS.out (FL.out h))).mono ?_
        intro e wn hpost
        cases hq : T.st sgnP bsk (rcd rs2 k) with
        | none =>
          rw [hq] at hpost
          obtain ⟨hse, hJ⟩ := hpost
          unfold Short at hse
          subst hse
          refine ⟨rfl, ?_⟩
          rw [FL.out hq]
          exact ⟨rfl, hJ⟩
        | some pn =>
          rw [hq] at hpost
          obtain ⟨rfl, hI', hC', hr'⟩ := hpost
          have hM := HM.out
          have hll := L2.out.len
          have hkk := HK.out
          have hC2 : Ch T.Own T.ro wr wn g (off + k * (schP sgnP).length) (schP sgnP).length := by rw [LQ.out] at hC' ⊢; exact hC'
          have hr2 : wn.rangeAt g (off + k * (schP sgnP).length) (vals (schP sgnP) pn.2) := by rw [LQ.out]; exact hr'
          have hM1 := hM.next hll hkk hq hI' hC2 hr2
          have M1 := Lib.hid hM1
          clear hM hll hkk hM1 hq hI' hC' hr' hC2 hr2 k2 FL LK RK OK GK HK
          go_wp2
          go_roundw
          case rel => exact ⟨k + 1, by omega, by simp, _, _, M1.out⟩
          case measure => simp [intOf]; omega
      · have hkn : k = n2 := by omega
        subst hkn
        have s1 : ¬ (k : Int) < (k : Int) := by omega
        go_wp2
        go_end0
        have hM := HM.out
        have e := hM.st
        rw [List.take_of_length_le (by rw [HN2.out]; exact Nat.le_refl _)] at e
        rw [ST.out, e]
        have hlr : rsk.length = rs2.length := by rw [hM.len, HN2.out]
        have hbk : wr.heap[b]? = w2.heap[b]? := hM.els b HB3.out HO3.out (by
          rcases RW.out with ⟨_, h⟩ | ⟨_, _, _, h, _⟩
          · exact .inl (by have := HB3.out; omega)
          · rcases h with h | h
            · exact .inl (by have := HB2.out; omega)
            · exact .inr h)
        refine ⟨rfl, hM.I, ?_, A2, c2, ?_⟩
        · refine ⟨Nat.le_trans C2.out.size hM.size, fun q hq ho => hM.own q (Nat.lt_of_lt_of_le hq C2.out.size) (C2.out.own q hq ho), fun q hq ho hne => ?_, fun i hi => ?_⟩
          · refine (hM.els q (Nat.lt_of_lt_of_le hq C2.out.size) (C2.out.own q hq ho) ?_).trans (C2.out.els q hq ho hne)
            rcases RW.out with ⟨_, h⟩ | ⟨_, _, _, h, _⟩
            · exact .inl (by have := C2.out.size; omega)
            · rcases h with h | h
              · exact .inl (by rw [NN.out] at hq; omega)
              · exact .inr h
          · rw [← C2.out.cell i hi]
            simp only [World.cell?, hbk]
        · have hl2 := L2.out
          refine ⟨by simp only [World.cell?, hbk]; rw [hlr]; exact hl2.cell, by rw [hlr]; exact hl2.le, hl2.mx, hl2.no, T.stR_all _ _ _ _ hl2.len e, ?_⟩
          rcases RW.out with ⟨h, _⟩ | ⟨h1, h2, h3, h4, _⟩
          · left
            exact List.eq_nil_of_length_eq_zero (by rw [hlr, h]; rfl)
          · right
            refine ⟨g, off, h1, hM.own g h3 h2, Nat.lt_of_lt_of_le h3 hM.size, ?_, fun j hj => hM.done j (by rw [hlr, HN2.out] at hj; exact hj)⟩
            rw [NN.out]
            exact h4
  have DS := Lib.hid (T.same v1 (v1.drewN nq) bs1 I1.out rfl rfl rfl (Nat.le_refl _) (fun _ _ => rfl))
  have CD : Hid (Ch T.Own T.ro w (v1.drewN nq) b o 1) := ⟨by rw [NN.out]; exact Nat.le_of_lt S1.out, fun q hq ho => DS.out.2 q (by rw [NN.out] at hq; have := S1.out; omega) (K0.out q (by rw [← NN.out]; exact hq) ho).2, fun q hq ho _ => (K0.out q (by rw [← NN.out]; exact hq) ho).1, fun i _ => by
    show v1.cell? _ = _
    simp only [World.cell?, (K0.out b HB2.out HO.out).1]⟩
  have SD : Hid (N < (v1.drewN nq).heap.size) := S1.out
  have OD : Hid (T.Own (v1.drewN nq) b) := DS.out.2 b (by have := S1.out; have := HB2.out; omega) OB.out
  have LD : Hid (LstAt T (schP sgnP) (v1.drewN nq) b o rs 0 A c) := L1.out.keep (fun q hq ho => ⟨rfl, DS.out.2 q hq ho⟩) (Nat.le_refl _) (by have := S1.out; have := HB2.out; omega) OB.out
  have k2 : (v1.drewN nq).cell? ⟨N, 0, none⟩ = some (.int .i64 x1) := k1
  have k3 : (v1.drewN nq).cell? ⟨b, o, none⟩ = some (.slice A n c) := k0
  show K _ _
  refine hKK _ _ ?_
  clear hKK K k0 k1 K0 L1 S1 OB hK1
  generalize (v1.drewN nq) = v2 at *
  by_cases hx : x1 = (n : Int)
  · have hbx : (x1 != (n : Int)) = false := by simp [hx]
    have HX := Lib.hid hx
    clear hx
    go_wp2
    refine REST v2 A c rs _ _ _ _ _ _ _ _ _ _ _ _ _ _ _ _ DS.out.1 (by have := SD.out; have := HB2.out; omega) OD.out ?_ CD.out ?_
    · have h := LD.out
      refine ⟨h.cell, h.le, h.mx, h.no, h.len, ?_⟩
      rcases HR.out with hr | hr
      · rcases h.row with g | ⟨g, off, e, h1, h2, h3, h4⟩
        · exact .inl g
        · exact .inr ⟨g, off, e, h1, h2, .inr hr, h4⟩
      · exact .inl hr
    · unfold Tape.stL
      rw [HN.out, P1.out]
      simp only [Option.bind_some]
      unfold rowsOf
      rw [HN.out, if_pos HX.out]
  · have hbx : (x1 != (n : Int)) = true := by simpa using hx
    obtain ⟨hro, h0, h256⟩ : T.ro = false ∧ 0 ≤ x1 ∧ x1 < 256 := by
      rcases T.byt1 _ _ _ P1.out with h | h
      · exact absurd h hx
      · exact h
    have hrs : rs = [] := by
      rcases HR.out with h | h
      · rw [h] at hro; cases hro
      · exact h
    obtain ⟨m, rfl⟩ := Int.eq_ofNat_of_zero_le h0
    have HRS := Lib.hid hrs
    have HRO := Lib.hid hro
    have HX := Lib.hid hx
    obtain ⟨i0, hi, hz0, hz1, hz2⟩ := info_parts sgnP_info
    have HI9 := Lib.hid hi
    have HI0 := Lib.hid hz0
    have HI1 := Lib.hid hz1
    have HI2 := Lib.hid hz2
    have hm256 : m < 256 := by omega
    clear hi hz0 hz1 hz2 hx hro h0 hrs
    go_wp2_with (refine wpList_make_full _ rfl (.tmp 21) (.tmp 21) 30 rfl N 66 i0 _ 282 Tryz.underlying30 HI9.out HI0.out HI1.out   .i64 .i64 m m m rfl rfl rfl rfl (by rw [HI2.out]; omega) (by unfold maxLen; omega) (by have := SD.out; omega) ?_; intro w3 hown hg; have hk := (fun q (hq : q < v2.heap.size) => hg.block q hq (by intro h; cases h)); have OW := Lib.hid hown; have GR := Lib.hid hg; have HK := Lib.hid hk; have e3 : w3.cell? ⟨b, o, none⟩ = some (.slice A n c) := (by simp only [World.cell?, hk b (by have := SD.out; have := HB2.out; omega)]; have h := LD.out.cell; rw [HN.out] at h; exact h); have SA := Lib.hid (T.same v2 w3 bs1 DS.out.1 hg.os hg.tape hg.output hg.size hk); have f3 : w3.frozen? ⟨b, o, none⟩ = false := T.free HRO.out w3 b (SA.out.2 b (by have := SD.out; have := HB2.out; omega) OD.out) o; clear hown hg hk)
    have HG : Hid (v2.heap.size < w3.heap.size) := (OW.out.lt v2.heap.size rfl).2
    have hb2 : b < v2.heap.size := by have := SD.out; have := HB2.out; omega
    have OB3 := SA.out.2 b hb2 OD.out
    have ST3 := Lib.hid (T.store HRO.out w3 bs1 b o (.slice (some ⟨v2.heap.size, 0, none⟩) m m) SA.out.1 OB3)
    have OG3 : Hid (T.Own w3 v2.heap.size) := T.fresh v2 w3 bs1 _ DS.out.1 SA.out.1 HK.out (Nat.le_refl _) (fun i => OW.out.frozenAt i)
    have hnb : v2.heap.size ≠ b := by omega
    have LQ : (schP sgnP).length = 282 := sgn_len
    refine REST _ (some ⟨v2.heap.size, 0, none⟩) m (List.replicate m (zeros 282)) _ _ _ _ _ _ _ _ _ _ _ _ _ _ _ _ ST3.out.1 (by have := HG.out; simp [World.setCell]; omega) (ST3.out.2 b OB3) ?_ ?_ ?_
    · have hrl : (List.replicate m (zeros 282)).length = m := List.length_replicate
      refine ⟨?_, by rw [hrl]; exact Nat.le_refl _, by unfold maxLen; omega, fun h => by (cases h), fun r hr => by rw [List.eq_of_mem_replicate hr, zeros_len]; exact LQ.symm, .inr ⟨v2.heap.size, 0, rfl, ST3.out.2 _ OG3.out, by have := HG.out; simp [World.setCell]; omega, .inl (Nat.le_of_lt SD.out), fun j hj => ?_⟩⟩
      · rw [hrl, World.cell?_setCell_same _ _ _ e3]
      · rw [hrl] at hj
        have hz : rcd (List.replicate m (zeros 282)) j = zeros 282 := by rw [rcd_get' (by rw [hrl]; exact hj)]; simp
        rw [hz]
        exact range_keep1 (by rw [LQ]; exact made_range (S := schP sgnP) LQ rfl OW.out hj) (heap_setCell_other _ _ _ _ hnb)
    · refine ⟨?_, fun q hq ho => ST3.out.2 q (SA.out.2 q (Nat.lt_of_lt_of_le hq CD.out.size) (CD.out.own q hq ho)), fun q hq ho hne => ?_, fun i hi => ?_⟩
      · have := CD.out.size; have := GR.out.size; simp [World.setCell]; omega
      · have hqb : q ≠ b := by
          rcases hne with h | h
          · exact h
          · rw [HRO.out] at h; cases h
        rw [heap_setCell_other _ _ _ _ hqb, HK.out q (Nat.lt_of_lt_of_le hq CD.out.size)]
        exact CD.out.els q hq ho hne
      · rw [World.cell?_setCell_other _ _ _ _ (by intro h; simp only [Addr.mk.injEq] at h; omega)]
        simp only [World.cell?, HK.out b hb2]
        exact CD.out.cell i hi
    · unfold Tape.stL
      rw [HN.out, P1.out]
      simp only [Option.bind_some]
      unfold rowsOf
      rw [HN.out, if_neg HX.out, Int.toNat_natCast, LQ]
end Go.Proofs.YtffaddefnpkcgaaGreatDoor

