/-
  Words for what is opened and what is shut.
-/
import Derived.Test.YtkmfmkonejdjiaaDoorLB
namespace Go.Proofs.YtkmfmkonejdjiaaDoor
open Go.RowKit
theorem at8_16 (l : List Int) (s b : Nat) (hb : b < 2) (h : 16 * s + 16 ≤ l.length) : at8 (at16 l s) b = at8 l (2 * s + b) := by
  have h0 : (at8 l (2 * s)).length = 8 := by unfold at8; rw [List.length_take, List.length_drop]; omega
  rw [at16_two]
  rcases (by omega : b = 0 ∨ b = 1) with rfl | rfl
  · unfold at8 at h0 ⊢
    rw [Nat.mul_zero, List.drop_zero, List.take_append_of_le_length (by omega), List.take_of_length_le (by omega), Nat.add_zero]
  · have h1 : (at8 l (2 * s + 1)).length = 8 := by unfold at8; rw [List.length_take, List.length_drop]; omega
    have := at8_app (at8 l (2 * s)) (at8 l (2 * s + 1)) 1 (by omega)
    rw [this, List.take_of_length_le (by omega)]
theorem cells8_at {w : World} {b t o k : Nat} {l : List Int} (a0 a1 a2 a3 a4 a5 a6 a7 : Int) (h : BA w b t l) (ha : at8 l k = [a0, a1, a2, a3, a4, a5, a6, a7]) (ho : o = k * 8) (hl : 8 * k + 8 ≤ l.length) : (w.cell? ⟨b, o, none⟩ = some (.int .u8 a0) ∧ w.cell? ⟨b, o + 1, none⟩ = some (.int .u8 a1) ∧ w.cell? ⟨b, o + 2, none⟩ = some (.int .u8 a2) ∧ w.cell? ⟨b, o + 3, none⟩ = some (.int .u8 a3) ∧ w.cell? ⟨b, o + 4, none⟩ = some (.int .u8 a4) ∧ w.cell? ⟨b, o + 5, none⟩ = some (.int .u8 a5) ∧ w.cell? ⟨b, o + 6, none⟩ = some (.int .u8 a6) ∧ w.cell? ⟨b, o + 7, none⟩ = some (.int .u8 a7)) := by
  have g : ∀ j, j < 8 → w.cell? ⟨b, o + j, none⟩ = some (.int .u8 ([a0, a1, a2, a3, a4, a5, a6, a7].getD j 0)) := fun j hj => by
    rw [ba_cell h (o + j) (by omega), ← ha]
    unfold at8
    simp [List.getD, hj, ho, Nat.mul_comm]
  exact ⟨g 0 (by omega), g 1 (by omega), g 2 (by omega), g 3 (by omega), g 4 (by omega), g 5 (by omega), g 6 (by omega), g 7 (by omega)⟩
theorem zero8 {w : World} {b t n o : Nat} {X : List Int} (h : BA w b t (X ++ zeros n)) (hX : X.length = o) (hn : 8 ≤ n) : (w.cell? ⟨b, o, none⟩ = some (.int .u8 0) ∧ w.cell? ⟨b, o + 1, none⟩ = some (.int .u8 0) ∧ w.cell? ⟨b, o + 2, none⟩ = some (.int .u8 0) ∧ w.cell? ⟨b, o + 3, none⟩ = some (.int .u8 0) ∧ w.cell? ⟨b, o + 4, none⟩ = some (.int .u8 0) ∧ w.cell? ⟨b, o + 5, none⟩ = some (.int .u8 0) ∧ w.cell? ⟨b, o + 6, none⟩ = some (.int .u8 0) ∧ w.cell? ⟨b, o + 7, none⟩ = some (.int .u8 0)) := ⟨zero_at h hX 0 (by omega), zero_at h hX 1 (by omega), zero_at h hX 2 (by omega), zero_at h hX 3 (by omega), zero_at h hX 4 (by omega), zero_at h hX 5 (by omega), zero_at h hX 6 (by omega), zero_at h hX 7 (by omega)⟩
theorem ba_bvals (xs : List Int) : ba xs = (bvals xs).toArray := rfl
theorem set_app {w : World} {b t n o : Nat} {X y : List Int} (h : BA w b t (X ++ zeros n)) (hX : X.length = o) (hn : y.length ≤ n) : BA (w.setCells b o (bvals y)) b t (X ++ y ++ zeros (n - y.length)) := by
  have h1 := ba_setCells y o h
  rw [← hX, splR_app y X (zeros n) (by rw [zeros_len]; exact hn), zeros_drop, ← List.append_assoc, hX] at h1
  exact h1
theorem results_cell_cell {P : Program} {fn : Func} {p q : Tmp} {ty : TypeId} (h : fn.results = #[.cell p ty, .cell q ty]) (tmps : Array Value) (w : World) (g k : Nat) (t t' : TypeId) (cs ds : Array Value) (fr fs : Nat × Nat) (d : TypeDesc)
    (hp : tmps.getD p undef = .pointer (some ⟨g, 0, none⟩)) (hq : tmps.getD q undef = .pointer (some ⟨k, 0, none⟩)) (hg : w.heap[g]? = some (.cells cs t fr)) (hk : w.heap[k]? = some (.cells ds t' fs))
    (hu : P.underlying ty = some d) (hd : (match d with | .struct _ | .array _ _ => true | _ => false) = true) (hi : (P.info? ty).map (·.size) = some cs.size) (hj : (P.info? ty).map (·.size) = some ds.size) :
    (results fn tmps).run P w = .ok (.tuple #[.agg cs, .agg ds]) w := by
  have hp' : tmps[p]?.getD undef = .pointer (some ⟨g, 0, none⟩) := by simpa using hp
  have hq' : tmps[q]?.getD undef = .pointer (some ⟨k, 0, none⟩) := by simpa using hq
  simp [results, h, hp', hq', asAddr, run_loadVar_row w g t ty cs fr d hg hu hd hi, run_loadVar_row w k t' ty ds fs d hk hu hd hj]
/-- what is opened, what is shut -/
def openF (K m : List Int) (i : Nat) : List Int := at8 K (2 * i + bt m i)
def shutF (K m : List Int) (i : Nat) : List Int := mk (at8 K (2 * i + (1 - bt m i)))
theorem openF_len (K m : List Int) (hK : K.length = 256) (i : Nat) (hi : i < 16) : (openF K m i).length = 8 := at8_len (n := 32) hK (by have := bt_two m i; omega)
theorem shutF_len (K m : List Int) (i : Nat) : (shutF K m i).length = 8 := mk_len _
theorem cat_lenN (F : Nat → List Int) : ∀ n, (∀ j, j < n → (F j).length = 8) → (cat F n).length = 8 * n
  | 0, _ => rfl
  | n + 1, hF => by rw [cat_succ, List.length_append, cat_lenN F n fun j hj => hF j (by omega), hF n (by omega)]; omega
theorem ba_new {w : World} {S : Nat} (h : w.heap.size = S) (xs : List Int) (t : TypeId) : BA (w.alloc (Obj.cells (ba xs) t)) S t xs := by subst h; exact heap_alloc_last w _
theorem ba_old {w : World} {b t : Nat} {xs : List Int} (h : BA w b t xs) (o : Obj) : BA (w.alloc o) b t xs := (Below.heap_alloc _ _ _ (lt_of_block h)).trans h
theorem size_al {w : World} {S : Nat} (h : w.heap.size = S) (o : Obj) : (w.alloc o).heap.size = S + 1 := by rw [World.size_alloc, h]
theorem al_below {S n : Nat} {w v : World} (h : Below S w v) (hs : v.heap.size = n) (hn : S ≤ n) (o : Obj) : Below S w (v.alloc o) := h.alloc (by omega) o
theorem row_set {w : World} {b t : Nat} {old l : List Int} (h : BA w b t old) (hl : old.length = l.length) : BA (w.setCells b 0 (bvals l)) b t l := by
  have h1 := ba_setCells l 0 h
  have h2 := splR_app l [] old (by omega)
  rw [List.nil_append, List.nil_append, List.length_nil, List.drop_of_length_le (by omega), List.append_nil] at h2
  rw [h2] at h1
  exact h1
theorem step_row {w : World} {ops : Array Oper} {o : Oper} {a : Act} {K : Act → World → Prop} {Q : Exit → Act → World → Prop} {E : Prop} (hgd : o.guard = none) (ty : TypeId) (x y : Operand) (ho : o.op = .store ty x y)
    (b t : Nat) (old l : List Int) (hx : a.eval x = .pointer (some ⟨b, 0, none⟩)) (hy : a.eval y = .agg (bvals l).toArray)
    (hb : BA w b t old) (hl : old.length = l.length) (hi : (Tryd.prog.info? ty).map (·.size) = some l.length)
    (h : K (a.put o.dst undef) (w.setCells b 0 (bvals l))) : if Region.wanted o (yielded ops a.tmps) = true then Oper.wp Tryd.prog o a w K Q else E := by
  have hw : Region.wanted o (yielded ops a.tmps) = true := by simp [Region.wanted, hgd]
  have hs : (bvals l).toArray.size = l.length := by simp [bvals]
  rw [if_pos hw]
  exact wp_store_mid ty x y ho b 0 (bvals l).toArray hx hy (ba_there hb 0 _ (by rw [hs]; omega)) (by rw [hs]; exact hi) (ba_one l) h
theorem step_at {w : World} {ops : Array Oper} {o : Oper} {a : Act} {K : Act → World → Prop} {Q : Exit → Act → World → Prop} {E : Prop} (hgd : o.guard = none) (ty : TypeId) (x y : Operand) (ho : o.op = .store ty x y)
    (b off : Nat) (l : List Int) (hx : a.eval x = .pointer (some ⟨b, off, none⟩)) (hy : a.eval y = .agg (ba l))
    (hb : w.there b off (ba l).size) (hi : (Tryd.prog.info? ty).map (·.size) = some (ba l).size)
    (h : K (a.put o.dst undef) (w.setCells b off (bvals l))) : if Region.wanted o (yielded ops a.tmps) = true then Oper.wp Tryd.prog o a w K Q else E := by
  have hw : Region.wanted o (yielded ops a.tmps) = true := by simp [Region.wanted, hgd]
  rw [if_pos hw]
  exact wp_store_mid ty x y ho b off (ba l) hx hy hb hi (ba_one l) h
theorem step_alloc {w : World} {ops : Array Oper} {o : Oper} {a : Act} {K : Act → World → Prop} {Q : Exit → Act → World → Prop} {E : Prop} (hgd : o.guard = none) (ho : o.op = .alloc 23)
    (h : K (a.put o.dst (.pointer (some ⟨w.heap.size, 0, none⟩))) (w.alloc (Obj.cells (ba (zeros 8)) 23))) : if Region.wanted o (yielded ops a.tmps) = true then Oper.wp Tryd.prog o a w K Q else E := by
  have hw : Region.wanted o (yielded ops a.tmps) = true := by simp [Region.wanted, hgd]
  have hz := z27
  rw [if_pos hw]
  unfold Oper.wp execOp
  simp [ho, go_sem, hz]
  exact h
end Go.Proofs.YtkmfmkonejdjiaaDoor

/-
  Sign.
-/
namespace Go.Proofs.YtkmfmkonejdjiaaDoor
open Go.RowKit
attribute [local irreducible] ua da ba kk sw S8.run rt hs comp splice outB sha msg bvals cat at8 at16 secM zeros sec keyF marksF mk pubk bt openF shutF
set_option maxRecDepth 100000 in
set_option maxHeartbeats 8000000 in
theorem lSign (K msg8 : List Int) (T : Nat) (w : World) (hk : Keys w) (hK : K.length = 256) (hm : msg8.length = 8) (hbt : Byt msg8) (hT : BA w T 67 K) :
    Calls Tryd.prog 21 #[.pointer (some ⟨T, 0, none⟩), .agg (ba msg8)] w fun e w' => e = .returned (.tuple #[.agg (ba (cat (openF K msg8) 16)), .agg (ba (cat (shutF K msg8) 16))]) ∧ Below w.heap.size w w' := by
  have h4 := z27
  have h5 := z16
  have h6 := z128
  have HK := Lib.hid hk
  have HKL := Lib.hid hK
  have HML := Lib.hid hm
  have HMB := Lib.hid hbt
  have HP : Hid (0 < w.heap.size) := keys_pos hk
  have HFO : Hid (∀ n, n ≤ 16 → (cat (openF K msg8) n).length = 8 * n) := fun n hn => cat_lenN _ n fun j hj => openF_len K msg8 hK j (by omega)
  have HFS : Hid (∀ n, (cat (shutF K msg8) n).length = 8 * n) := cat_len _ (shutF_len K msg8)
  obtain ⟨S, hS⟩ : ∃ S, w.heap.size = S := ⟨_, rfl⟩
  have HS := Lib.hid hS
  have LT : Hid (T < S) := by show _ < _; rw [← hS]; exact lt_of_block hT
  have M0 := Lib.hid (ba_old (ba_old (ba_old (ba_old (ba_new hS msg8 23) (Obj.cells (ba (zeros 128)) 27)) (Obj.cells (ba (zeros 128)) 27)) (Obj.cells (ba (zeros 128)) 27)) (Obj.cells (ba (zeros 128)) 27))
  have O0 := Lib.hid (ba_old (ba_old (ba_old (ba_new (size_al hS (Obj.cells (ba msg8) 23)) (zeros 128) 27) (Obj.cells (ba (zeros 128)) 27)) (Obj.cells (ba (zeros 128)) 27)) (Obj.cells (ba (zeros 128)) 27))
  have H0 := Lib.hid (ba_old (ba_old (ba_new (size_al (size_al hS (Obj.cells (ba msg8) 23)) (Obj.cells (ba (zeros 128)) 27)) (zeros 128) 27) (Obj.cells (ba (zeros 128)) 27)) (Obj.cells (ba (zeros 128)) 27))
  have P0 := Lib.hid (ba_old (ba_new (size_al (size_al (size_al hS (Obj.cells (ba msg8) 23)) (Obj.cells (ba (zeros 128)) 27)) (Obj.cells (ba (zeros 128)) 27)) (zeros 128) 27) (Obj.cells (ba (zeros 128)) 27))
  have Q0 := Lib.hid (ba_new (size_al (size_al (size_al (size_al hS (Obj.cells (ba msg8) 23)) (Obj.cells (ba (zeros 128)) 27)) (Obj.cells (ba (zeros 128)) 27)) (Obj.cells (ba (zeros 128)) 27)) (zeros 128) 27)
  have K0 := Lib.hid (ba_old (ba_old (ba_old (ba_old (ba_old hT (Obj.cells (ba msg8) 23)) (Obj.cells (ba (zeros 128)) 27)) (Obj.cells (ba (zeros 128)) 27)) (Obj.cells (ba (zeros 128)) 27)) (Obj.cells (ba (zeros 128)) 27))
  have B0 : Hid (Below S w (((((w.alloc (Obj.cells (ba msg8) 23)).alloc (Obj.cells (ba (zeros 128)) 27)).alloc (Obj.cells (ba (zeros 128)) 27)).alloc (Obj.cells (ba (zeros 128)) 27)).alloc (Obj.cells (ba (zeros 128)) 27))) := by subst hS; exact (((((Below.refl _ w).alloc (Nat.le_refl _) _).alloc (by simp) _).alloc (by simp; omega) _).alloc (by simp; omega) _).alloc (by simp; omega) _
  have KW : Hid (∀ w', Below S w w' → Keys w') := fun w' hb => keys_below HK.out hb (by rw [← HS.out]; exact HP.out)
  clear hk hK hT hm hbt
  go_enter Tryd.func21, Tryd.ntmps21
  go_wp2_with (first
    | (refine wpList_load_row rfl 65 (.tmp 17) rfl T rfl 67 (ba K) (0, 0) _ K0.out Tryd.underlying65 rfl (sz q46 (by rw [ba_size, HKL.out])) ?_)
    | fail)
  clear hS K0
  generalize (((((w.alloc (Obj.cells (ba msg8) 23)).alloc (Obj.cells (ba (zeros 128)) 27)).alloc (Obj.cells (ba (zeros 128)) 27)).alloc (Obj.cells (ba (zeros 128)) 27)).alloc (Obj.cells (ba (zeros 128)) 27)) = w0 at *
  go_loopw [19] (fun c wr => ∃ s : Nat, s ≤ 16 ∧ c = .int .i64 s ∧ BA wr (S + 3) 27 (cat (openF K msg8) s ++ zeros (128 - 8 * s)) ∧ BA wr (S + 4) 27 (cat (shutF K msg8) s ++ zeros (128 - 8 * s)) ∧ BA wr S 23 msg8 ∧ BA wr (S + 1) 27 (zeros 128) ∧ BA wr (S + 2) 27 (zeros 128) ∧ Below S w wr) (fun c _ => 16 - (intOf c).toNat)
  case atStart => exact ⟨0, by omega, rfl, by rw [cat_zero]; exact P0.out, by rw [cat_zero]; exact Q0.out, M0.out, O0.out, H0.out, B0.out⟩
  case round =>
    clear M0 O0 H0 P0 Q0 B0
    obtain ⟨s, hs, rfl, hp, hq, hm, ho, hh, hb⟩ := hrel
    have PR := Lib.hid hp
    have QR := Lib.hid hq
    have MR := Lib.hid hm
    have OR := Lib.hid ho
    have HR := Lib.hid hh
    have BR := Lib.hid hb
    clear hp hq hm ho hh hb
    by_cases hlt : s < 16
    · have s0 : (0 : Int) ≤ (s : Int) := by omega
      have s1 : (s : Int) < 16 := by omega
      have HS16 : Hid (s < 16) := hlt
      have hx := idx46 K s hlt
      obtain ⟨b, hb⟩ : ∃ b, bt msg8 s = b := ⟨_, rfl⟩
      obtain ⟨c, hc⟩ : ∃ c, 1 - b = c := ⟨_, rfl⟩
      have hb2 : b = 0 ∨ b = 1 := by rw [← hb]; exact bt_two _ _
      have hlen : 16 * s + 16 ≤ K.length := by rw [HKL.out]; omega
      obtain ⟨a0, a1, a2, a3, a4, a5, a6, a7, ha⟩ := c8cells (at8 K (2 * s + b)) (at8_len (n := 32) HKL.out (by omega))
      obtain ⟨d0, d1, d2, d3, d4, d5, d6, d7, hd⟩ := c8cells (at8 K (2 * s + c)) (at8_len (n := 32) HKL.out (by omega))
      have hoF : openF K msg8 s = [a0, a1, a2, a3, a4, a5, a6, a7] := by unfold openF; rw [hb, ha]
      have hsF : shutF K msg8 s = mk [d0, d1, d2, d3, d4, d5, d6, d7] := by unfold shutF; rw [hb, hc, hd]
      have A1 : Hid (at8 (at16 K s) b = [a0, a1, a2, a3, a4, a5, a6, a7]) := by show _ = _; rw [at8_16 K s b (by omega) hlen, ha]
      have A2 : Hid (at8 (at16 K s) c = [d0, d1, d2, d3, d4, d5, d6, d7]) := by show _ = _; rw [at8_16 K s c (by omega) hlen, hd]
      obtain ⟨n, hn⟩ : ∃ n, mk [d0, d1, d2, d3, d4, d5, d6, d7] = n := ⟨_, rfl⟩
      have LN : Hid (n.length = 8) := by rw [← hn]; exact mk_len _
      have L16 : Hid ((at16 K s).length = 16) := at16_len (n := 16) HKL.out hlt
      have HCO : Hid (cat (openF K msg8) (s + 1) = cat (openF K msg8) s ++ [a0, a1, a2, a3, a4, a5, a6, a7]) := by show _ = _; rw [cat_succ, hoF]
      have HCS : Hid (cat (shutF K msg8) (s + 1) = cat (shutF K msg8) s ++ n) := by show _ = _; rw [cat_succ, hsF, hn]
      have CLO : Hid ((cat (openF K msg8) s).length = s * 8) := by show _ = _; rw [HFO.out s hs]; omega
      have CLS : Hid ((cat (shutF K msg8) s).length = s * 8) := by show _ = _; rw [HFS.out]; omega
      have C18 : Hid (∀ w', Calls Tryd.prog 41 #[.agg (ba msg8), .int .i64 s] w' fun e w'' => e = .returned (.int .i64 b) ∧ Below w'.heap.size w' w'') := fun w' => by
        have := lBit msg8 s w' HML.out HMB.out HS16.out
        rw [hb] at this
        exact this
      have C19 : Hid (∀ w', Below S w w' → Calls Tryd.prog 35 #[.agg #[.int .u8 d0, .int .u8 d1, .int .u8 d2, .int .u8 d3, .int .u8 d4, .int .u8 d5, .int .u8 d6, .int .u8 d7]] w' fun e w'' => e = .returned (.agg (ba n)) ∧ Below w'.heap.size w' w'') := fun w' hb => by
        have := lMark [d0, d1, d2, d3, d4, d5, d6, d7] w' (KW.out w' hb) rfl
        rw [hn, ba_lit] at this
        exact this
      have b0 : (0 : Int) ≤ (b : Int) := by omega
      have b1 : (b : Int) < 2 := by omega
      have c0 : (0 : Int) ≤ (c : Int) := by omega
      have c1 : (c : Int) < 2 := by omega
      have HB2 : Hid (b < 2) := by show _ < _; omega
      have HC2 : Hid (c < 2) := by show _ < _; omega
      have e1 : (1 : Int) - (b : Int) = (c : Int) := by omega
      have e2 : wrap64 (c : Int) = (c : Int) := by unfold wrap64; omega
      have e3 : IntKind.i64.wrap (c : Int) = (c : Int) := by rw [IntKind.wrap_i64]; omega
      obtain ⟨Z, hZ⟩ : ∃ Z, wr.heap.size = Z := ⟨_, rfl⟩
      have HZ := Lib.hid hZ
      have LZ : Hid (S + 4 < Z) := by show _ < _; rw [← hZ]; exact lt_of_block QR.out
      have U1 := Lib.hid (ba_new hZ (zeros 16) 63)
      generalize cat (openF K msg8) s = X at *
      generalize cat (shutF K msg8) s = Y at *
      generalize at16 K s = J at *
      clear ha hd hn hb hc hlt hs hoF hsF hb2 hlen
      go_wp2_with (first
        | (refine wpList_store_rowTo rfl 63 (.tmp 9) (.tmp 22) rfl rfl Z (ba J) rfl rfl 63 (ba (zeros 16)) U1.out (sz q44 (by rw [ba_size, L16.out])) (by rw [ba_size, ba_size, zeros_len, L16.out]) (ba_one _) ?_
           have B3 : Hid (Below Z wr ((wr.alloc (Obj.cells (ba (zeros 16)) 63)).setRow Z (ba J))) := below_setRow ((Below.refl Z wr).alloc (by have := HZ.out; omega) _) (Nat.le_refl _) _
           have U3 : Hid (BA ((wr.alloc (Obj.cells (ba (zeros 16)) 63)).setRow Z (ba J)) Z 63 J) := setRow_heap _ _ _ _ _ _ U1.out
           clear hZ U1
           generalize (wr.alloc (Obj.cells (ba (zeros 16)) 63)).setRow Z (ba J) = w3 at *
           have M3 : Hid (BA w3 S 23 msg8) := (B3.out.block _ (by have := LZ.out; omega)).trans MR.out)
        | (refine wpList_load_row rfl 23 (.tmp 3) rfl S rfl 23 (ba msg8) (0, 0) _ M3.out Tryd.underlying23 rfl (sz s27 (by rw [ba_size, HML.out])) ?_)
        | (go_at_call 41; refine (C18.out _).mono ?_; rintro e w4 ⟨rfl, hb4⟩; have B4 : Hid (Below Z wr w4) := B3.out.trans (hb4.mono (Nat.le_of_lt (lt_of_block U3.out))); have U4 : Hid (BA w4 Z 63 J) := (hb4.block _ (lt_of_block U3.out)).trans U3.out; clear hb4)
        | fail)
      have LZ4 : Hid (Z < w4.heap.size) := lt_of_block U4.out
      have BS4 : Hid (Below S w w4) := BR.out.trans (B4.out.mono (by have := LZ.out; omega))
      have KZ : Hid (∀ v : World, v.heap[Z]? = w4.heap[Z]? → (v.cell? ⟨Z, b * 8, none⟩ = some (.int .u8 a0) ∧ v.cell? ⟨Z, b * 8 + 1, none⟩ = some (.int .u8 a1) ∧ v.cell? ⟨Z, b * 8 + 2, none⟩ = some (.int .u8 a2) ∧ v.cell? ⟨Z, b * 8 + 3, none⟩ = some (.int .u8 a3) ∧ v.cell? ⟨Z, b * 8 + 4, none⟩ = some (.int .u8 a4) ∧ v.cell? ⟨Z, b * 8 + 5, none⟩ = some (.int .u8 a5) ∧ v.cell? ⟨Z, b * 8 + 6, none⟩ = some (.int .u8 a6) ∧ v.cell? ⟨Z, b * 8 + 7, none⟩ = some (.int .u8 a7)) ∧ (v.cell? ⟨Z, c * 8, none⟩ = some (.int .u8 d0) ∧ v.cell? ⟨Z, c * 8 + 1, none⟩ = some (.int .u8 d1) ∧ v.cell? ⟨Z, c * 8 + 2, none⟩ = some (.int .u8 d2) ∧ v.cell? ⟨Z, c * 8 + 3, none⟩ = some (.int .u8 d3) ∧ v.cell? ⟨Z, c * 8 + 4, none⟩ = some (.int .u8 d4) ∧ v.cell? ⟨Z, c * 8 + 5, none⟩ = some (.int .u8 d5) ∧ v.cell? ⟨Z, c * 8 + 6, none⟩ = some (.int .u8 d6) ∧ v.cell? ⟨Z, c * 8 + 7, none⟩ = some (.int .u8 d7))) := fun v hv => ⟨cells8_at a0 a1 a2 a3 a4 a5 a6 a7 (hv.trans U4.out) A1.out rfl (by rw [L16.out]; have := HB2.out; omega), cells8_at d0 d1 d2 d3 d4 d5 d6 d7 (hv.trans U4.out) A2.out rfl (by rw [L16.out]; have := HC2.out; omega)⟩
      have PF : Hid (∀ w', Below w4.heap.size w4 w' → BA w' (S + 3) 27 (X ++ zeros (128 - 8 * s))) := fun w' hb => (hb.block _ (by have := LZ.out; have := LZ4.out; omega)).trans ((B4.out.block _ (by have := LZ.out; omega)).trans PR.out)
      have QF : Hid (∀ w', Below w4.heap.size w4 w' → BA w' (S + 4) 27 (Y ++ zeros (128 - 8 * s))) := fun w' hb => (hb.block _ (by have := LZ.out; have := LZ4.out; omega)).trans ((B4.out.block _ (by have := LZ.out; omega)).trans QR.out)
      have MF : Hid (∀ w', Below w4.heap.size w4 w' → BA w' S 23 msg8 ∧ BA w' (S + 1) 27 (zeros 128) ∧ BA w' (S + 2) 27 (zeros 128)) := fun w' hb => ⟨(hb.block _ (by have := LZ.out; have := LZ4.out; omega)).trans ((B4.out.block _ (by have := LZ.out; omega)).trans MR.out), (hb.block _ (by have := LZ.out; have := LZ4.out; omega)).trans ((B4.out.block _ (by have := LZ.out; omega)).trans OR.out), (hb.block _ (by have := LZ.out; have := LZ4.out; omega)).trans ((B4.out.block _ (by have := LZ.out; omega)).trans HR.out)⟩
      have XF : Hid (∀ w', Below w4.heap.size w4 w' → Below S w w') := fun w' hb => BS4.out.trans (hb.mono (by have := LZ.out; have := LZ4.out; omega))
      have X4 : Hid (Below w4.heap.size w4 w4) := Below.refl _ _
      obtain ⟨⟨e0, e1, e2, e3, e4, e5, e6, e7⟩, ⟨f0, f1, f2, f3, f4, f5, f6, f7⟩⟩ := KZ.out w4 rfl
      have K7 := Lib.hid (KZ.out w4.drew rfl)
      have hsn : (ba n).size = 8 := by rw [ba_size]; exact LN.out
      clear PR QR MR OR HR
      go_region_held3 (fun w' => (w'.cell? ⟨Z, b * 8, none⟩ = some (.int .u8 a0) ∧ w'.cell? ⟨Z, b * 8 + 1, none⟩ = some (.int .u8 a1) ∧ w'.cell? ⟨Z, b * 8 + 2, none⟩ = some (.int .u8 a2) ∧ w'.cell? ⟨Z, b * 8 + 3, none⟩ = some (.int .u8 a3) ∧ w'.cell? ⟨Z, b * 8 + 4, none⟩ = some (.int .u8 a4) ∧ w'.cell? ⟨Z, b * 8 + 5, none⟩ = some (.int .u8 a5) ∧ w'.cell? ⟨Z, b * 8 + 6, none⟩ = some (.int .u8 a6) ∧ w'.cell? ⟨Z, b * 8 + 7, none⟩ = some (.int .u8 a7)) ∧ (w'.cell? ⟨Z, c * 8, none⟩ = some (.int .u8 d0) ∧ w'.cell? ⟨Z, c * 8 + 1, none⟩ = some (.int .u8 d1) ∧ w'.cell? ⟨Z, c * 8 + 2, none⟩ = some (.int .u8 d2) ∧ w'.cell? ⟨Z, c * 8 + 3, none⟩ = some (.int .u8 d3) ∧ w'.cell? ⟨Z, c * 8 + 4, none⟩ = some (.int .u8 d4) ∧ w'.cell? ⟨Z, c * 8 + 5, none⟩ = some (.int .u8 d5) ∧ w'.cell? ⟨Z, c * 8 + 6, none⟩ = some (.int .u8 d6) ∧ w'.cell? ⟨Z, c * 8 + 7, none⟩ = some (.int .u8 d7))) (first | (with_reducible exact K7.out) | (with_reducible exact K8.out) | (with_reducible exact K9.out) | (with_reducible exact KA.out) | go_keep)
        (first
          | (go_at_call 35; refine (C19.out _ (XF.out _ (by first | exact X4.out.drew | exact X4.out))).mono ?_; rintro e wz ⟨rfl, hbz⟩; have XZ : Hid (Below w4.heap.size w4 wz) := X4.out.drew.trans hbz; have K8 := Lib.hid (KZ.out wz (hbz.block Z LZ4.out)); have K9 := Lib.hid (KZ.out (((((((((wz.setCell ⟨S + 3, s * 8, none⟩ (.int .u8 a0)).setCell ⟨S + 3, s * 8 + 1, none⟩ (.int .u8 a1)).setCell ⟨S + 3, s * 8 + 2, none⟩ (.int .u8 a2)).setCell ⟨S + 3, s * 8 + 3, none⟩ (.int .u8 a3)).setCell ⟨S + 3, s * 8 + 4, none⟩ (.int .u8 a4)).setCell ⟨S + 3, s * 8 + 5, none⟩ (.int .u8 a5)).setCell ⟨S + 3, s * 8 + 6, none⟩ (.int .u8 a6)).setCell ⟨S + 3, s * 8 + 7, none⟩ (.int .u8 a7))) (by rw [put8_eq]; exact (heap_setCells (by have := LZ.out; omega) _ _ _).trans (hbz.block Z LZ4.out))); obtain ⟨z0, z1, z2, z3, z4, z5, z6, z7⟩ := zero8 (PF.out wz XZ.out) CLO.out (by have := HS16.out; omega); have f0 := fun i => free_of (PF.out wz XZ.out) i; have QN : Hid (BA (((((((((wz.setCell ⟨S + 3, s * 8, none⟩ (.int .u8 a0)).setCell ⟨S + 3, s * 8 + 1, none⟩ (.int .u8 a1)).setCell ⟨S + 3, s * 8 + 2, none⟩ (.int .u8 a2)).setCell ⟨S + 3, s * 8 + 3, none⟩ (.int .u8 a3)).setCell ⟨S + 3, s * 8 + 4, none⟩ (.int .u8 a4)).setCell ⟨S + 3, s * 8 + 5, none⟩ (.int .u8 a5)).setCell ⟨S + 3, s * 8 + 6, none⟩ (.int .u8 a6)).setCell ⟨S + 3, s * 8 + 7, none⟩ (.int .u8 a7))) (S + 4) 27 (Y ++ zeros (128 - 8 * s))) := (by rw [put8_eq]; exact (heap_setCells (by omega) _ _ _).trans (QF.out wz XZ.out)); have hst := st_mid (ba_there QN.out (s * 8) (ba n).size (by rw [List.length_append, CLS.out, zeros_len, hsn]; have := HS16.out; omega)); have KA := Lib.hid (KZ.out ((((((((((wz.setCell ⟨S + 3, s * 8, none⟩ (.int .u8 a0)).setCell ⟨S + 3, s * 8 + 1, none⟩ (.int .u8 a1)).setCell ⟨S + 3, s * 8 + 2, none⟩ (.int .u8 a2)).setCell ⟨S + 3, s * 8 + 3, none⟩ (.int .u8 a3)).setCell ⟨S + 3, s * 8 + 4, none⟩ (.int .u8 a4)).setCell ⟨S + 3, s * 8 + 5, none⟩ (.int .u8 a5)).setCell ⟨S + 3, s * 8 + 6, none⟩ (.int .u8 a6)).setCell ⟨S + 3, s * 8 + 7, none⟩ (.int .u8 a7))).setCells (S + 4) (s * 8) (bvals n)) ((heap_setCells (by have := LZ.out; omega) _ _ _).trans (by rw [put8_eq]; exact (heap_setCells (by have := LZ.out; omega) _ _ _).trans (hbz.block Z LZ4.out)))); clear hbz))
      rename_i hHeld
      clear hHeld K7 K8 K9 KA
      rw [put8_eq]
      rw [put8_eq] at QN
      have PN : Hid (BA (wz.setCells (S + 3) (s * 8) (bvals [a0, a1, a2, a3, a4, a5, a6, a7])) (S + 3) 27 (X ++ [a0, a1, a2, a3, a4, a5, a6, a7] ++ zeros (128 - 8 * s - 8))) := set_app (y := [a0, a1, a2, a3, a4, a5, a6, a7]) (PF.out wz XZ.out) CLO.out (by have := HS16.out; show 8 ≤ _; omega)
      have MN : Hid (∀ q, q < S + 3 → (wz.setCells (S + 3) (s * 8) (bvals [a0, a1, a2, a3, a4, a5, a6, a7])).heap[q]? = wz.heap[q]?) := fun q hq => heap_setCells (by omega) _ _ _
      have BN : Hid (Below S w (wz.setCells (S + 3) (s * 8) (bvals [a0, a1, a2, a3, a4, a5, a6, a7]))) := below_setCells (by omega) _ _ (XF.out wz XZ.out)
      generalize wz.setCells (S + 3) (s * 8) (bvals [a0, a1, a2, a3, a4, a5, a6, a7]) = v at *
      have PU : Hid (BA (v.setCells (S + 4) (s * 8) (bvals n)) (S + 3) 27 (cat (openF K msg8) (s + 1) ++ zeros (128 - 8 * (s + 1)))) := by
        rw [HCO.out, show 128 - 8 * (s + 1) = 128 - 8 * s - 8 by omega]
        exact (heap_setCells (by omega) _ _ _).trans PN.out
      have QU : Hid (BA (v.setCells (S + 4) (s * 8) (bvals n)) (S + 4) 27 (cat (shutF K msg8) (s + 1) ++ zeros (128 - 8 * (s + 1)))) := by
        rw [HCS.out, show 128 - 8 * (s + 1) = 128 - 8 * s - 8 by omega]
        have := set_app (y := n) QN.out CLS.out (by rw [LN.out]; have := HS16.out; omega)
        rw [LN.out] at this
        exact this
      have MU : Hid (∀ q, q < S + 3 → (v.setCells (S + 4) (s * 8) (bvals n)).heap[q]? = wz.heap[q]?) := fun q hq => (heap_setCells (by omega) _ _ _).trans (MN.out q hq)
      have BU : Hid (Below S w (v.setCells (S + 4) (s * 8) (bvals n))) := below_setCells (by omega) _ _ BN.out
      clear z0 z1 z2 z3 z4 z5 z6 z7 f0 hst hsn QN PN MN BN
      generalize v.setCells (S + 4) (s * 8) (bvals n) = u at *
      go_wp2
      go_roundw
      case rel => exact ⟨s + 1, by have := HS16.out; omega, by go_num, PU.out, QU.out, (MU.out S (by omega)).trans (MF.out wz XZ.out).1, (MU.out (S + 1) (by omega)).trans (MF.out wz XZ.out).2.1, (MU.out (S + 2) (by omega)).trans (MF.out wz XZ.out).2.2, BU.out⟩
      case measure => have := HS16.out; simp [intOf]; omega
    · obtain rfl : s = 16 := by omega
      obtain ⟨y, hy⟩ : ∃ y, cat (openF K msg8) 16 = y := ⟨_, rfl⟩
      obtain ⟨z, hz⟩ : ∃ z, cat (shutF K msg8) 16 = z := ⟨_, rfl⟩
      have HY := Lib.hid hy
      have HZ := Lib.hid hz
      have LY : Hid (y.length = 128) := by rw [← hy]; exact HFO.out 16 (by omega)
      have LZ : Hid (z.length = 128) := by rw [← hz]; exact HFS.out 16
      have PF : Hid (BA wr (S + 3) 27 y) := by
        have : BA wr (S + 3) 27 (cat (openF K msg8) 16 ++ zeros 0) := PR.out
        rw [List.eq_nil_of_length_eq_zero (zeros_len 0), List.append_nil, hy] at this
        exact this
      have QF : Hid (BA wr (S + 4) 27 z) := by
        have : BA wr (S + 4) 27 (cat (shutF K msg8) 16 ++ zeros 0) := QR.out
        rw [List.eq_nil_of_length_eq_zero (zeros_len 0), List.append_nil, hz] at this
        exact this
      clear PR QR MR hlt hs hy hz HFO HFS
      go_wp2_with fail
      have hiy : (Tryd.prog.info? 27).map (·.size) = some (bvals y).length := by rw [q27]; simp [bvals, LY.out]
      have hiz : (Tryd.prog.info? 27).map (·.size) = some (bvals z).length := by rw [q27]; simp [bvals, LZ.out]
      have LO1 : Hid ((zeros 128).length = y.length) := by show _ = _; rw [zeros_len, LY.out]
      have LH1 : Hid ((zeros 128).length = z.length) := by show _ = _; rw [zeros_len, LZ.out]
      have OD : Hid (BA wr.drew (S + 1) 27 (zeros 128)) := OR.out
      have OE : Hid (BA (wr.drew.setCells (S + 1) 0 (bvals y)) (S + 1) 27 y) := row_set OD.out LO1.out
      have HE : Hid (BA (wr.drew.setCells (S + 1) 0 (bvals y)) (S + 2) 27 (zeros 128)) := (heap_setCells (by omega) _ _ _).trans HR.out
      have PE : Hid (BA (wr.drew.setCells (S + 1) 0 (bvals y)) (S + 3) 27 y) := (heap_setCells (by omega) _ _ _).trans PF.out
      have QE : Hid (BA (wr.drew.setCells (S + 1) 0 (bvals y)) (S + 4) 27 z) := (heap_setCells (by omega) _ _ _).trans QF.out
      have BE : Hid (Below S w (wr.drew.setCells (S + 1) 0 (bvals y))) := below_setCells (by omega) _ _ BR.out.drew
      have lz : (bvals z).length = z.length := by simp [bvals]
      have ly : (bvals y).length = y.length := by simp [bvals]
      refine wp_region_held_drew (S := (fun w' : World => w'.rangeAt (S + 3) 0 (bvals y) ∧ w'.rangeAt (S + 4) 0 (bvals z))) (by kernel_rfl) (by exact ⟨ba_range (t := 27) PF.out, ba_range (t := 27) QF.out⟩) (fun hHeld => ?_)
      refine wpAnyH_take (i := 0) rfl (by kernel_rfl) (by kernel_rfl) (by kernel_rfl) (fun _ _ _ h => h) (yieldsIf_load_mid (by rfl) 27 (.tmp 6) rfl (S + 3) 0 rfl (bvals y) _ (fun w h => h.1) Tryd.underlying27 rfl hiy) (by assumption) ?_
      simp only [Act.put, List.getElem_toArray, List.getElem_cons_zero, List.setIfInBounds_toArray, List.set_cons_zero, List.set_cons_succ]
      refine wpAnyH_take (i := 1) rfl (by kernel_rfl) (by kernel_rfl) (by kernel_rfl) (fun _ _ _ h => h) (yieldsIf_load_mid (by rfl) 27 (.tmp 7) rfl (S + 4) 0 rfl (bvals z) _ (fun w h => h.2) Tryd.underlying27 rfl hiz) (by assumption) ?_
      simp only [Act.put, List.getElem_toArray, List.getElem_cons_succ, List.getElem_cons_zero, List.setIfInBounds_toArray, List.set_cons_zero, List.set_cons_succ]
      refine wpAnyH_ready (rs := [2]) (by kernel_rfl) (by simp) ?_
      refine AllReadyH.cons rfl (fun K hK => ?_) AllReadyH.nil
      refine step_row rfl 27 (.tmp 4) (.tmp 39) rfl (S + 1) 27 (zeros 128) y rfl rfl OD.out LO1.out (by rw [← ly]; exact hiy) ?_
      refine hK.out _ _ (by exact ⟨ba_range (t := 27) PE.out, ba_range (t := 27) QE.out⟩) (fun hHeld2 => ?_)
      clear hK K hHeld
      simp only [Act.put, List.getElem_toArray, List.getElem_cons_succ, List.getElem_cons_zero]
      refine wpAnyH_ready (rs := [3]) (by kernel_rfl) (by simp) ?_
      refine AllReadyH.cons rfl (fun K hK => ?_) AllReadyH.nil
      generalize wr.drew.setCells (S + 1) 0 (bvals y) = v at *
      have HG : Hid (BA (v.setCells (S + 2) 0 (bvals z)) (S + 2) 27 z) := row_set HE.out LH1.out
      have OG : Hid (BA (v.setCells (S + 2) 0 (bvals z)) (S + 1) 27 y) := (heap_setCells (by omega) _ _ _).trans OE.out
      have BG : Hid (Below S w (v.setCells (S + 2) 0 (bvals z))) := below_setCells (by omega) _ _ BE.out
      refine step_row rfl 27 (.tmp 5) (.tmp 40) rfl (S + 2) 27 (zeros 128) z rfl rfl HE.out LH1.out (by rw [← lz]; exact hiz) ?_
      refine hK.out _ _ (by exact ⟨ba_range (t := 27) ((heap_setCells (by omega) _ _ _).trans PE.out), ba_range (t := 27) ((heap_setCells (by omega) _ _ _).trans QE.out)⟩) (fun hHeld3 => ?_)
      clear hK K hHeld2
      simp only [Act.put, List.getElem_toArray, List.getElem_cons_succ, List.getElem_cons_zero]
      refine wpAnyH_done (by kernel_rfl) ?_ _
      go_wp2
      refine bodyPost_ret (v := .tuple #[.agg (ba y), .agg (ba z)]) (results_cell_cell rfl _ _ (S + 1) (S + 2) 27 27 (ba y) (ba z) (0, 0) (0, 0) _ rfl rfl OG.out HG.out Tryd.underlying27 rfl (sz q27 (by rw [ba_size, LY.out])) (sz q27 (by rw [ba_size, LZ.out]))) rfl ⟨by rw [HY.out, HZ.out], ?_⟩
      rw [HS.out]
      exact BG.out
end Go.Proofs.YtkmfmkonejdjiaaDoor
