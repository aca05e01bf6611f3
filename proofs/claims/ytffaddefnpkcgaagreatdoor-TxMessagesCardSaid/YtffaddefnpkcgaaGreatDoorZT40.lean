/-
  The document's MayTx.
-/
import Derived.Test.YtffaddefnpkcgaaGreatDoorZH
import Derived.Test.YtffaddefnpkcgaaGreatDoorZW
namespace Go.Proofs.YtffaddefnpkcgaaGreatDoor
open Go.RowKit
set_option maxRecDepth 100000
attribute [local irreducible] ua da ba kk sw S8.run rt hs comp splice outB sha msg zeros win bvals vals mHave mPlc mLis mPts cel seg
attribute [local irreducible] wpList parC cerC claC txC mOuts mCer mCla mCre mPay zH zP zC zL
theorem want_f {o : Oper} {ops : Array Oper} {tmps : Array Value} {i : Nat} {g : Bool} (ho : o.guard = some (i, false)) (hy : yielded ops tmps i = some g) : Region.wanted o (yielded ops tmps) = !g := by
  rw [want_of ho hy]; cases g <;> rfl
theorem wpList_gu {P : Program} {ops : Array Oper} {rest : List Oper} {o : Oper} {a : Act} {w : World} {Q : Exit → Act → World → Prop} {g : Bool} {v : Value} (hw : Region.wanted o (yielded ops a.tmps) = g) (hr : g = true → (execOp a.eval o).run P w = .ok (.value v) w)
    (hK : ∀ u, (g = true → u = v) → wpList P ops Q rest (a.put o.dst u) w) : wpList P ops Q (o :: rest) a w := by
  refine wpList_g (v := v) hw hr (hK _ fun h => by rw [h]; rfl)
theorem wpList_callU {P : Program} {ops : Array Oper} {rest : List Oper} {o : Oper} {a : Act} {w : World} {Q : Exit → Act → World → Prop} {g : Bool} {F : Nat} {args : Array Value} {v : Value} {R : World → Prop} (hw : Region.wanted o (yielded ops a.tmps) = g)
    (hrun : g = true → (execOp a.eval o).run P w = .ok (.enter F args) w) (hc : g = true → Calls P F args w fun e w' => e = .returned v ∧ R w') (h0 : g = false → R w)
    (hK : ∀ w', R w' → ∀ u, (g = true → u = v) → wpList P ops Q rest (a.put o.dst u) w') : wpList P ops Q (o :: rest) a w :=
  wpList_callG (v := v) hw hrun hc h0 fun w' hr => hK w' hr _ fun h => by rw [h]; rfl
theorem zer_b {t : TxP} {kd ht0 : Int} {ni nf no : Nat} {c4 c5 c6 : Bool} (hk : t.kind = kd) (hh : t.height = ht0) (hi : t.ins.length = ni) (hf : t.fwds.length = nf) (ho : t.outs.length = no) (h4 : zP t = c4) (h5 : zC t = c5) (h6 : zL t = c6) :
    zerT t = !(((((((kd != 1) && (ht0 != 0)) || ((kd != 2) && decide (0 < (ni : Int) + nf))) || (((kd != 2) && (kd != 1)) && decide (0 < (no : Int)))) || ((kd != 3) && !c4)) || ((kd != 4) && !c5)) || ((kd != 5) && !c6)) := by
  have e1 : decide (0 < (ni : Int) + nf) = !(decide (ni = 0) && decide (nf = 0)) := by
    rw [Bool.eq_iff_iff]
    simp
    omega
  have e2 : decide (0 < (no : Int)) = !decide (no = 0) := by
    rw [Bool.eq_iff_iff]
    simp
    omega
  have e3 : ∀ (x y : Int), (x != y) = !decide (x = y) := fun x y => by
    by_cases h : x = y <;> simp [h]
  unfold zerT zH zI zO zF
  rw [hk, hh, hi, hf, ho, h4, h5, h6, e1, e2]
  simp only [e3, Bool.not_or, Bool.not_and, Bool.not_not, Bool.and_assoc, Bool.or_assoc]
theorem run_ld27 {o : Oper} {ev : Operand → Value} {x : Operand} {b off : Nat} {cs : List Value} {w : World} (ho : o.op = .load 27 x) (hx : ev x = .pointer (some ⟨b, off, none⟩)) (hc : w.rangeAt b off cs) (hi : (Tryz.prog.info? 27).map (·.size) = some cs.length) : (execOp ev o).run Tryz.prog w = .ok (.value (.agg cs.toArray)) w := by
  unfold execOp
  simp only [ho, hx, Instr.loadAt, Instr.sureAddr, Sem.run_bind, Sem.run_pure, Result.andThen_ok, run_loadVar_mid w b off 27 cs _ hc Tryz.underlying27 rfl hi]
theorem run_ld32 {o : Oper} {ev : Operand → Value} {x : Operand} {b off : Nat} {cs : List Value} {w : World} (ho : o.op = .load 32 x) (hx : ev x = .pointer (some ⟨b, off, none⟩)) (hc : w.rangeAt b off cs) (hi : (Tryz.prog.info? 32).map (·.size) = some cs.length) : (execOp ev o).run Tryz.prog w = .ok (.value (.agg cs.toArray)) w := by
  unfold execOp
  simp only [ho, hx, Instr.loadAt, Instr.sureAddr, Sem.run_bind, Sem.run_pure, Result.andThen_ok, run_loadVar_mid w b off 32 cs _ hc Tryz.underlying32 rfl hi]
set_option maxHeartbeats 16000000 in
theorem dMayTx (t : TxP) (h : TxH) (w : World) (ht : WfT t) (hm : Mem w t h) (hw : FewT t) :
    Calls Tryz.prog 16 #[.agg (txC t h).toArray] w fun e w' => e = .returned (.bool (mayT t)) ∧ Below w.heap.size w w' := by
  have h5 := okT_len ht.cla
  have EC := fun w => eq_claB t h5 w
  obtain ⟨ni, hni⟩ : ∃ n, t.ins.length = n := ⟨_, rfl⟩
  obtain ⟨no, hno⟩ : ∃ n, t.outs.length = n := ⟨_, rfl⟩
  obtain ⟨nf, hnf⟩ : ∃ n, t.fwds.length = n := ⟨_, rfl⟩
  have f1 := hw.i
  have f2 := hw.o
  have f3 := hw.f
  rw [hni] at f1
  rw [hno] at f2
  rw [hnf] at f3
  have NI := Lib.hid hni
  have NO := Lib.hid hno
  have NF := Lib.hid hnf
  obtain ⟨kd, hkd⟩ : ∃ x, t.kind = x := ⟨_, rfl⟩
  obtain ⟨ht0, hht⟩ : ∃ x, t.height = x := ⟨_, rfl⟩
  obtain ⟨c4, hc4⟩ : ∃ c, zP t = c := ⟨_, rfl⟩
  obtain ⟨c5, hc5⟩ : ∃ c, zC t = c := ⟨_, rfl⟩
  obtain ⟨c6, hc6⟩ : ∃ c, zL t = c := ⟨_, rfl⟩
  obtain ⟨cm, hcm⟩ : ∃ c, mFld t = c := ⟨_, rfl⟩
  have HK := Lib.hid hkd
  have HH := Lib.hid hht
  have HF := Lib.hid hcm
  rw [hc6] at EC
  have ZB := zer_b hkd hht hni hnf hno hc4 hc5 hc6
  obtain ⟨p1, hp1⟩ : ∃ p, (kd != 1) = p := ⟨_, rfl⟩
  obtain ⟨p2, hp2⟩ : ∃ p, (kd != 2) = p := ⟨_, rfl⟩
  obtain ⟨p3, hp3⟩ : ∃ p, (kd != 3) = p := ⟨_, rfl⟩
  obtain ⟨p4, hp4⟩ : ∃ p, (kd != 4) = p := ⟨_, rfl⟩
  obtain ⟨p5, hp5⟩ : ∃ p, (kd != 5) = p := ⟨_, rfl⟩
  obtain ⟨nh, hnh⟩ : ∃ p, (ht0 != 0) = p := ⟨_, rfl⟩
  obtain ⟨ns, hns⟩ : ∃ p, decide (0 < (ni : Int) + nf) = p := ⟨_, rfl⟩
  obtain ⟨nx, hnx⟩ : ∃ p, decide (0 < (no : Int)) = p := ⟨_, rfl⟩
  rw [hp1, hp2, hp3, hp4, hp5, hnh, hns, hnx] at ZB
  obtain ⟨b1, hb1⟩ : ∃ b, (p1 && nh) = b := ⟨_, rfl⟩
  obtain ⟨b2, hb2⟩ : ∃ b, (b1 || (p2 && ns)) = b := ⟨_, rfl⟩
  obtain ⟨b3, hb3⟩ : ∃ b, (b2 || ((p2 && p1) && nx)) = b := ⟨_, rfl⟩
  obtain ⟨b4, hb4⟩ : ∃ b, (b3 || (p3 && !c4)) = b := ⟨_, rfl⟩
  obtain ⟨b5, hb5⟩ : ∃ b, (b4 || (p4 && !c5)) = b := ⟨_, rfl⟩
  obtain ⟨b6, hb6⟩ : ∃ b, (b5 || (p5 && !c6)) = b := ⟨_, rfl⟩
  rw [hb1, hb2, hb3, hb4, hb5, hb6] at ZB
  have HM : Hid (mayT t = (!b6 && cm)) := by
    show _ = _
    rw [may_zer, ZB, hcm]
  clear ZB
  obtain ⟨S, hS⟩ : ∃ S, w.heap.size = S := ⟨_, rfl⟩
  have HS := Lib.hid hS
  have BC : Hid (Below S w (w.alloc (Obj.cells (txC t h).toArray 39))) := by rw [← hS]; exact (Below.refl _ w).alloc (Nat.le_refl _) _
  have WC : Hid (BL (w.alloc (Obj.cells (txC t h).toArray 39)) S (txC t h) 39) := by rw [← hS]; exact heap_alloc_last w _
  have NC : Hid ((w.alloc (Obj.cells (txC t h).toArray 39)).heap.size = S + 1) := by show _ = _; rw [World.size_alloc, hS]
  have HW := Lib.hid ht
  have MM : Hid (∀ w', Below S w w' → Mem w' t h) := fun w' hb => hm.keep fun q hq => hb.block q (by rw [← hS]; exact hq)
  have CP : Hid (∀ w', Below S w w' → Calls Tryz.prog 42 #[.agg (parC t h).toArray] w' fun e w'' => e = .returned (.bool c4) ∧ Below w'.heap.size w' w'') := fun w' hb => by
    have := dNoPar t h w' HW.out (MM.out w' hb)
    rw [hc4] at this
    exact this
  have CC : Hid (∀ w', Below S w w' → Calls Tryz.prog 43 #[.agg (cerC t h).toArray] w' fun e w'' => e = .returned (.bool c5) ∧ Below w'.heap.size w' w'') := fun w' hb => by
    have := dNoCer t h w' HW.out (MM.out w' hb)
    rw [hc5] at this
    exact this
  have CT : Hid (TRng (w.alloc (Obj.cells (txC t h).toArray 39)) S t h) := trng ht (range_of WC.out)
  have HP : Hid ((Tryz.prog.info? 27).map (·.size) = some (parC t h).length) := szL i27 (parC_len h ht)
  have HC : Hid ((Tryz.prog.info? 32).map (·.size) = some (cerC t h).length) := szL i32 (cerC_len h ht)
  have HL : Hid ((Tryz.prog.info? 37).map (·.size) = some (claC t).length) := szL i37 (claC_len ht)
  have HT : Hid ((Tryz.prog.info? 39).map (·.size) = some (txC t h).length) := szL i39 (txC_len h ht)
  clear hni hno hnf hkd hht hc4 hc5 hc6 hcm h5 ht hm hw
  go_enter Tryz.func16, Tryz.ntmps16
  go_upto_region 1 with (fail)
  rename_i K hKK
  clear hS
  generalize (w.alloc (Obj.cells (txC t h).toArray 39)) = v at *
  obtain ⟨k0, k1, k2, k3, k4, kP, kC, kL⟩ := CT.out
  rw [HK.out] at k0
  rw [HH.out] at k1
  rw [NI.out] at k2
  rw [NO.out] at k3
  rw [NF.out] at k4
  have KP := Lib.hid kP
  have KC := Lib.hid kC
  have KL := Lib.hid kL
  clear kP kC kL CT
  have w64 : IntKind.i64.wrap ((ni : Int) + nf) = (ni : Int) + nf := by rw [IntKind.wrap_i64]; omega
  have w65 : wrap64 ((ni : Int) + nf) = (ni : Int) + nf := by unfold wrap64; omega
  refine wp_region_lit ?_
  refine wpList_t (v := .pointer (some ⟨S, 0, none⟩)) (by rfl) (by go_simp) ?_
  simp only [Act.put, ly4, ly5, ly6]
  refine wpList_t (v := .int .i64 kd) (by rfl) (by go_simp) ?_
  simp only [Act.put, ly4, ly5, ly6]
  refine wpList_t (v := .bool p1) (by rfl) (by go_simp <;> exact hp1) ?_
  simp only [Act.put, ly4, ly5, ly6]
  refine wpList_t (v := .bool p1) (by rfl) (by go_simp) ?_
  simp only [Act.put, ly4, ly5, ly6]
  refine wpList_gu (g := p1) (v := .pointer (some ⟨S, 1, none⟩)) (want_t (i := 3) rfl rfl) (fun hg => by (go_simp)) ?_
  intro u7 hu7
  have Hu7 := Lib.hid hu7
  clear hu7
  simp only [Act.put, ly4, ly5, ly6]
  refine wpList_gu (g := p1) (v := .int .i64 ht0) (want_t (i := 3) rfl rfl) (fun hg => by (have eu7 := Hu7.out hg; subst eu7; go_simp)) ?_
  intro u8 hu8
  have Hu8 := Lib.hid hu8
  clear hu8
  simp only [Act.put, ly4, ly5, ly6]
  refine wpList_gu (g := p1) (v := .bool nh) (want_t (i := 3) rfl rfl) (fun hg => by (have eu8 := Hu8.out hg; subst eu8; go_simp <;> exact hnh)) ?_
  intro u9 hu9
  have Hu9 := Lib.hid hu9
  clear hu9
  simp only [Act.put, ly4, ly5, ly6]
  refine wpList_t (v := .bool b1) (by rfl) (by subst hb1; cases p1 with | true => (have e := Hu9.out rfl; subst e; go_simp) | false => go_simp) ?_
  simp only [Act.put, ly4, ly5, ly6]
  refine wpList_t (v := .bool b1) (by rfl) (by go_simp) ?_
  simp only [Act.put, ly4, ly5, ly6]
  refine wpList_gu (g := (!b1)) (v := .pointer (some ⟨S, 0, none⟩)) (want_f (i := 8) rfl rfl) (fun hg => by (go_simp)) ?_
  intro u12 hu12
  have Hu12 := Lib.hid hu12
  clear hu12
  simp only [Act.put, ly4, ly5, ly6]
  refine wpList_gu (g := (!b1)) (v := .int .i64 kd) (want_f (i := 8) rfl rfl) (fun hg => by (have eu12 := Hu12.out hg; subst eu12; go_simp)) ?_
  intro u13 hu13
  have Hu13 := Lib.hid hu13
  clear hu13
  simp only [Act.put, ly4, ly5, ly6]
  refine wpList_gu (g := (!b1)) (v := .bool p2) (want_f (i := 8) rfl rfl) (fun hg => by (have eu13 := Hu13.out hg; subst eu13; go_simp <;> exact hp2)) ?_
  intro u14 hu14
  have Hu14 := Lib.hid hu14
  clear hu14
  simp only [Act.put, ly4, ly5, ly6]
  refine wpList_g (g := (!b1)) (v := .bool p2) (want_f (i := 8) rfl rfl) (fun hg => by (have eu14 := Hu14.out hg; subst eu14; go_simp)) ?_
  simp only [Act.put, ly4, ly5, ly6]
  refine wpList_gu (g := (!b1 && p2)) (v := .pointer (some ⟨S, 2, none⟩)) (by cases b1 <;> cases p2 <;> rfl) (fun hg => by (go_simp)) ?_
  intro u16 hu16
  have Hu16 := Lib.hid hu16
  clear hu16
  simp only [Act.put, ly4, ly5, ly6]
  refine wpList_gu (g := (!b1 && p2)) (v := .slice h.i.A ni h.i.c) (by cases b1 <;> cases p2 <;> rfl) (fun hg => by (have eu16 := Hu16.out hg; subst eu16; go_simp)) ?_
  intro u17 hu17
  have Hu17 := Lib.hid hu17
  clear hu17
  simp only [Act.put, ly4, ly5, ly6]
  refine wpList_gu (g := (!b1 && p2)) (v := .int .i64 ni) (by cases b1 <;> cases p2 <;> rfl) (fun hg => by (have eu17 := Hu17.out hg; subst eu17; go_simp)) ?_
  intro u18 hu18
  have Hu18 := Lib.hid hu18
  clear hu18
  simp only [Act.put, ly4, ly5, ly6]
  refine wpList_gu (g := (!b1 && p2)) (v := .pointer (some ⟨S, 4, none⟩)) (by cases b1 <;> cases p2 <;> rfl) (fun hg => by (go_simp)) ?_
  intro u19 hu19
  have Hu19 := Lib.hid hu19
  clear hu19
  simp only [Act.put, ly4, ly5, ly6]
  refine wpList_gu (g := (!b1 && p2)) (v := .slice h.f.A nf h.f.c) (by cases b1 <;> cases p2 <;> rfl) (fun hg => by (have eu19 := Hu19.out hg; subst eu19; go_simp)) ?_
  intro u20 hu20
  have Hu20 := Lib.hid hu20
  clear hu20
  simp only [Act.put, ly4, ly5, ly6]
  refine wpList_gu (g := (!b1 && p2)) (v := .int .i64 nf) (by cases b1 <;> cases p2 <;> rfl) (fun hg => by (have eu20 := Hu20.out hg; subst eu20; go_simp)) ?_
  intro u21 hu21
  have Hu21 := Lib.hid hu21
  clear hu21
  simp only [Act.put, ly4, ly5, ly6]
  refine wpList_gu (g := (!b1 && p2)) (v := .int .i64 ((ni : Int) + nf)) (by cases b1 <;> cases p2 <;> rfl) (fun hg => by (have eu18 := Hu18.out hg; subst eu18; have eu21 := Hu21.out hg; subst eu21; first | (go_simp; done) | (simp only [w64, w65]; go_simp; done))) ?_
  intro u22 hu22
  have Hu22 := Lib.hid hu22
  clear hu22
  simp only [Act.put, ly4, ly5, ly6]
  refine wpList_gu (g := (!b1 && p2)) (v := .bool ns) (by cases b1 <;> cases p2 <;> rfl) (fun hg => by (have eu22 := Hu22.out hg; subst eu22; go_simp <;> exact hns)) ?_
  intro u23 hu23
  have Hu23 := Lib.hid hu23
  clear hu23
  simp only [Act.put, ly4, ly5, ly6]
  refine wpList_gu (g := (!b1)) (v := .bool (p2 && ns)) (want_f (i := 8) rfl rfl) (fun hg => by (cases b1 with | true => cases hg | false => cases p2 with | false => go_simp | true => (have e := Hu23.out rfl; subst e; go_simp))) ?_
  intro u24 hu24
  have Hu24 := Lib.hid hu24
  clear hu24
  simp only [Act.put, ly4, ly5, ly6]
  refine wpList_t (v := .bool b2) (by rfl) (by subst hb2; cases b1 with | true => go_simp | false => (have e := Hu24.out rfl; subst e; go_simp)) ?_
  simp only [Act.put, ly4, ly5, ly6]
  refine wpList_t (v := .bool b2) (by rfl) (by go_simp) ?_
  simp only [Act.put, ly4, ly5, ly6]
  refine wpList_gu (g := (!b2)) (v := .pointer (some ⟨S, 0, none⟩)) (want_f (i := 23) rfl rfl) (fun hg => by (go_simp)) ?_
  intro u27 hu27
  have Hu27 := Lib.hid hu27
  clear hu27
  simp only [Act.put, ly4, ly5, ly6]
  refine wpList_gu (g := (!b2)) (v := .int .i64 kd) (want_f (i := 23) rfl rfl) (fun hg => by (have eu27 := Hu27.out hg; subst eu27; go_simp)) ?_
  intro u28 hu28
  have Hu28 := Lib.hid hu28
  clear hu28
  simp only [Act.put, ly4, ly5, ly6]
  refine wpList_gu (g := (!b2)) (v := .bool p2) (want_f (i := 23) rfl rfl) (fun hg => by (have eu28 := Hu28.out hg; subst eu28; go_simp <;> exact hp2)) ?_
  intro u29 hu29
  have Hu29 := Lib.hid hu29
  clear hu29
  simp only [Act.put, ly4, ly5, ly6]
  refine wpList_g (g := (!b2)) (v := .bool p2) (want_f (i := 23) rfl rfl) (fun hg => by (have eu29 := Hu29.out hg; subst eu29; go_simp)) ?_
  simp only [Act.put, ly4, ly5, ly6]
  refine wpList_gu (g := (!b2 && p2)) (v := .pointer (some ⟨S, 0, none⟩)) (by cases b2 <;> cases p2 <;> rfl) (fun hg => by (go_simp)) ?_
  intro u31 hu31
  have Hu31 := Lib.hid hu31
  clear hu31
  simp only [Act.put, ly4, ly5, ly6]
  refine wpList_gu (g := (!b2 && p2)) (v := .int .i64 kd) (by cases b2 <;> cases p2 <;> rfl) (fun hg => by (have eu31 := Hu31.out hg; subst eu31; go_simp)) ?_
  intro u32 hu32
  have Hu32 := Lib.hid hu32
  clear hu32
  simp only [Act.put, ly4, ly5, ly6]
  refine wpList_gu (g := (!b2 && p2)) (v := .bool p1) (by cases b2 <;> cases p2 <;> rfl) (fun hg => by (have eu32 := Hu32.out hg; subst eu32; go_simp <;> exact hp1)) ?_
  intro u33 hu33
  have Hu33 := Lib.hid hu33
  clear hu33
  simp only [Act.put, ly4, ly5, ly6]
  refine wpList_gu (g := (!b2)) (v := .bool (p2 && p1)) (want_f (i := 23) rfl rfl) (fun hg => by (cases b2 with | true => cases hg | false => cases p2 with | false => go_simp | true => (have e := Hu33.out rfl; subst e; go_simp))) ?_
  intro u34 hu34
  have Hu34 := Lib.hid hu34
  clear hu34
  simp only [Act.put, ly4, ly5, ly6]
  refine wpList_g (g := (!b2)) (v := .bool (p2 && p1)) (want_f (i := 23) rfl rfl) (fun hg => by (have eu34 := Hu34.out hg; subst eu34; go_simp)) ?_
  simp only [Act.put, ly4, ly5, ly6]
  refine wpList_gu (g := (!b2 && (p2 && p1))) (v := .pointer (some ⟨S, 3, none⟩)) (by cases b2 <;> cases p2 <;> cases p1 <;> rfl) (fun hg => by (go_simp)) ?_
  intro u36 hu36
  have Hu36 := Lib.hid hu36
  clear hu36
  simp only [Act.put, ly4, ly5, ly6]
  refine wpList_gu (g := (!b2 && (p2 && p1))) (v := .slice h.o.A no h.o.c) (by cases b2 <;> cases p2 <;> cases p1 <;> rfl) (fun hg => by (have eu36 := Hu36.out hg; subst eu36; go_simp)) ?_
  intro u37 hu37
  have Hu37 := Lib.hid hu37
  clear hu37
  simp only [Act.put, ly4, ly5, ly6]
  refine wpList_gu (g := (!b2 && (p2 && p1))) (v := .int .i64 no) (by cases b2 <;> cases p2 <;> cases p1 <;> rfl) (fun hg => by (have eu37 := Hu37.out hg; subst eu37; go_simp)) ?_
  intro u38 hu38
  have Hu38 := Lib.hid hu38
  clear hu38
  simp only [Act.put, ly4, ly5, ly6]
  refine wpList_gu (g := (!b2 && (p2 && p1))) (v := .bool nx) (by cases b2 <;> cases p2 <;> cases p1 <;> rfl) (fun hg => by (have eu38 := Hu38.out hg; subst eu38; go_simp <;> (rw [← hnx]; simp))) ?_
  intro u39 hu39
  have Hu39 := Lib.hid hu39
  clear hu39
  simp only [Act.put, ly4, ly5, ly6]
  refine wpList_gu (g := (!b2)) (v := .bool ((p2 && p1) && nx)) (want_f (i := 23) rfl rfl) (fun hg => by (cases b2 with | true => cases hg | false => cases p2 with | false => go_simp | true => cases p1 with | false => go_simp | true => (have e := Hu39.out rfl; subst e; go_simp))) ?_
  intro u40 hu40
  have Hu40 := Lib.hid hu40
  clear hu40
  simp only [Act.put, ly4, ly5, ly6]
  refine wpList_t (v := .bool b3) (by rfl) (by subst hb3; cases b2 with | true => go_simp | false => (have e := Hu40.out rfl; subst e; go_simp)) ?_
  simp only [Act.put, ly4, ly5, ly6]
  refine wpList_t (v := .bool b3) (by rfl) (by go_simp) ?_
  simp only [Act.put, ly4, ly5, ly6]
  refine wpList_gu (g := (!b3)) (v := .pointer (some ⟨S, 0, none⟩)) (want_f (i := 39) rfl rfl) (fun hg => by (go_simp)) ?_
  intro u43 hu43
  have Hu43 := Lib.hid hu43
  clear hu43
  simp only [Act.put, ly4, ly5, ly6]
  refine wpList_gu (g := (!b3)) (v := .int .i64 kd) (want_f (i := 39) rfl rfl) (fun hg => by (have eu43 := Hu43.out hg; subst eu43; go_simp)) ?_
  intro u44 hu44
  have Hu44 := Lib.hid hu44
  clear hu44
  simp only [Act.put, ly4, ly5, ly6]
  refine wpList_gu (g := (!b3)) (v := .bool p3) (want_f (i := 39) rfl rfl) (fun hg => by (have eu44 := Hu44.out hg; subst eu44; go_simp <;> exact hp3)) ?_
  intro u45 hu45
  have Hu45 := Lib.hid hu45
  clear hu45
  simp only [Act.put, ly4, ly5, ly6]
  refine wpList_g (g := (!b3)) (v := .bool p3) (want_f (i := 39) rfl rfl) (fun hg => by (have eu45 := Hu45.out hg; subst eu45; go_simp)) ?_
  simp only [Act.put, ly4, ly5, ly6]
  refine wpList_gu (g := (!b3 && p3)) (v := .pointer (some ⟨S, 5, none⟩)) (by cases b3 <;> cases p3 <;> rfl) (fun hg => by (go_simp)) ?_
  intro u47 hu47
  have Hu47 := Lib.hid hu47
  clear hu47
  simp only [Act.put, ly4, ly5, ly6]
  refine wpList_gu (g := (!b3 && p3)) (v := .agg (parC t h).toArray) (by cases b3 <;> cases p3 <;> rfl) (fun hg => by (have eu47 := Hu47.out hg; subst eu47; exact run_ld27 (by rfl) (by go_simp) KP.out HP.out)) ?_
  intro u48 hu48
  have Hu48 := Lib.hid hu48
  clear hu48
  simp only [Act.put, ly4, ly5, ly6]
  refine wpList_callU (g := (!b3 && p3)) (F := 42) (args := #[.agg (parC t h).toArray]) (v := .bool c4) (R := fun w' => BL w' S (txC t h) 39 ∧ Below S w w') (by cases b3 <;> cases p3 <;> rfl) (fun hg => by (have eu48 := Hu48.out hg; subst eu48; go_simp)) (fun _ => (CP.out _ BC.out).mono fun e w' he => ⟨he.1, bl_keep WC.out (he.2.block _ (bl_lt WC.out)), BC.out.trans (he.2.mono (Nat.le_of_lt (bl_lt WC.out)))⟩) (fun _ => ⟨WC.out, BC.out⟩) ?_
  rintro v43 ⟨hw1, hw2⟩ u49 hu49
  have Hu49 := Lib.hid hu49
  replace WC : Hid (BL v43 S (txC t h) 39) := Lib.hid hw1
  replace BC : Hid (Below S w v43) := Lib.hid hw2
  clear hw1 hw2 hu49 k0 k1 k2 k3 k4 KP KC KL
  obtain ⟨k0, k1, k2, k3, k4, kP, kC, kL⟩ := trng HW.out (range_of WC.out)
  rw [HK.out] at k0
  rw [HH.out] at k1
  rw [NI.out] at k2
  rw [NO.out] at k3
  rw [NF.out] at k4
  have KP := Lib.hid kP
  have KC := Lib.hid kC
  have KL := Lib.hid kL
  clear kP kC kL
  simp only [Act.put, ly4, ly5, ly6]
  refine wpList_gu (g := (!b3 && p3)) (v := .bool (!c4)) (by cases b3 <;> cases p3 <;> rfl) (fun hg => by (have eu49 := Hu49.out hg; subst eu49; go_simp)) ?_
  intro u50 hu50
  have Hu50 := Lib.hid hu50
  clear hu50
  simp only [Act.put, ly4, ly5, ly6]
  refine wpList_gu (g := (!b3)) (v := .bool (p3 && !c4)) (want_f (i := 39) rfl rfl) (fun hg => by (cases b3 with | true => cases hg | false => cases p3 with | false => go_simp | true => (have e := Hu50.out rfl; subst e; go_simp))) ?_
  intro u51 hu51
  have Hu51 := Lib.hid hu51
  clear hu51
  simp only [Act.put, ly4, ly5, ly6]
  refine wpList_t (v := .bool b4) (by rfl) (by subst hb4; cases b3 with | true => go_simp | false => (have e := Hu51.out rfl; subst e; go_simp)) ?_
  simp only [Act.put, ly4, ly5, ly6]
  refine wpList_t (v := .bool b4) (by rfl) (by go_simp) ?_
  simp only [Act.put, ly4, ly5, ly6]
  refine wpList_gu (g := (!b4)) (v := .pointer (some ⟨S, 0, none⟩)) (want_f (i := 50) rfl rfl) (fun hg => by (go_simp)) ?_
  intro u54 hu54
  have Hu54 := Lib.hid hu54
  clear hu54
  simp only [Act.put, ly4, ly5, ly6]
  refine wpList_gu (g := (!b4)) (v := .int .i64 kd) (want_f (i := 50) rfl rfl) (fun hg => by (have eu54 := Hu54.out hg; subst eu54; go_simp)) ?_
  intro u55 hu55
  have Hu55 := Lib.hid hu55
  clear hu55
  simp only [Act.put, ly4, ly5, ly6]
  refine wpList_gu (g := (!b4)) (v := .bool p4) (want_f (i := 50) rfl rfl) (fun hg => by (have eu55 := Hu55.out hg; subst eu55; go_simp <;> exact hp4)) ?_
  intro u56 hu56
  have Hu56 := Lib.hid hu56
  clear hu56
  simp only [Act.put, ly4, ly5, ly6]
  refine wpList_g (g := (!b4)) (v := .bool p4) (want_f (i := 50) rfl rfl) (fun hg => by (have eu56 := Hu56.out hg; subst eu56; go_simp)) ?_
  simp only [Act.put, ly4, ly5, ly6]
  refine wpList_gu (g := (!b4 && p4)) (v := .pointer (some ⟨S, 9, none⟩)) (by cases b4 <;> cases p4 <;> rfl) (fun hg => by (go_simp)) ?_
  intro u58 hu58
  have Hu58 := Lib.hid hu58
  clear hu58
  simp only [Act.put, ly4, ly5, ly6]
  refine wpList_gu (g := (!b4 && p4)) (v := .agg (cerC t h).toArray) (by cases b4 <;> cases p4 <;> rfl) (fun hg => by (have eu58 := Hu58.out hg; subst eu58; exact run_ld32 (by rfl) (by go_simp) KC.out HC.out)) ?_
  intro u59 hu59
  have Hu59 := Lib.hid hu59
  clear hu59
  simp only [Act.put, ly4, ly5, ly6]
  refine wpList_callU (g := (!b4 && p4)) (F := 43) (args := #[.agg (cerC t h).toArray]) (v := .bool c5) (R := fun w' => BL w' S (txC t h) 39 ∧ Below S w w') (by cases b4 <;> cases p4 <;> rfl) (fun hg => by (have eu59 := Hu59.out hg; subst eu59; go_simp)) (fun _ => (CC.out _ BC.out).mono fun e w' he => ⟨he.1, bl_keep WC.out (he.2.block _ (bl_lt WC.out)), BC.out.trans (he.2.mono (Nat.le_of_lt (bl_lt WC.out)))⟩) (fun _ => ⟨WC.out, BC.out⟩) ?_
  rintro v54 ⟨hw1, hw2⟩ u60 hu60
  have Hu60 := Lib.hid hu60
  replace WC : Hid (BL v54 S (txC t h) 39) := Lib.hid hw1
  replace BC : Hid (Below S w v54) := Lib.hid hw2
  clear hw1 hw2 hu60 k0 k1 k2 k3 k4 KP KC KL
  obtain ⟨k0, k1, k2, k3, k4, kP, kC, kL⟩ := trng HW.out (range_of WC.out)
  rw [HK.out] at k0
  rw [HH.out] at k1
  rw [NI.out] at k2
  rw [NO.out] at k3
  rw [NF.out] at k4
  have KP := Lib.hid kP
  have KC := Lib.hid kC
  have KL := Lib.hid kL
  clear kP kC kL
  simp only [Act.put, ly4, ly5, ly6]
  refine wpList_gu (g := (!b4 && p4)) (v := .bool (!c5)) (by cases b4 <;> cases p4 <;> rfl) (fun hg => by (have eu60 := Hu60.out hg; subst eu60; go_simp)) ?_
  intro u61 hu61
  have Hu61 := Lib.hid hu61
  clear hu61
  simp only [Act.put, ly4, ly5, ly6]
  refine wpList_gu (g := (!b4)) (v := .bool (p4 && !c5)) (want_f (i := 50) rfl rfl) (fun hg => by (cases b4 with | true => cases hg | false => cases p4 with | false => go_simp | true => (have e := Hu61.out rfl; subst e; go_simp))) ?_
  intro u62 hu62
  have Hu62 := Lib.hid hu62
  clear hu62
  simp only [Act.put, ly4, ly5, ly6]
  refine wpList_t (v := .bool b5) (by rfl) (by subst hb5; cases b4 with | true => go_simp | false => (have e := Hu62.out rfl; subst e; go_simp)) ?_
  simp only [Act.put, ly4, ly5, ly6]
  refine wpList_t (v := .bool b5) (by rfl) (by go_simp) ?_
  simp only [Act.put, ly4, ly5, ly6]
  refine wpList_gu (g := (!b5)) (v := .pointer (some ⟨S, 0, none⟩)) (want_f (i := 61) rfl rfl) (fun hg => by (go_simp)) ?_
  intro u65 hu65
  have Hu65 := Lib.hid hu65
  clear hu65
  simp only [Act.put, ly4, ly5, ly6]
  refine wpList_gu (g := (!b5)) (v := .int .i64 kd) (want_f (i := 61) rfl rfl) (fun hg => by (have eu65 := Hu65.out hg; subst eu65; go_simp)) ?_
  intro u66 hu66
  have Hu66 := Lib.hid hu66
  clear hu66
  simp only [Act.put, ly4, ly5, ly6]
  refine wpList_gu (g := (!b5)) (v := .bool p5) (want_f (i := 61) rfl rfl) (fun hg => by (have eu66 := Hu66.out hg; subst eu66; go_simp <;> exact hp5)) ?_
  intro u67 hu67
  have Hu67 := Lib.hid hu67
  clear hu67
  simp only [Act.put, ly4, ly5, ly6]
  refine wpList_g (g := (!b5)) (v := .bool p5) (want_f (i := 61) rfl rfl) (fun hg => by (have eu67 := Hu67.out hg; subst eu67; go_simp)) ?_
  simp only [Act.put, ly4, ly5, ly6]
  refine wpList_gu (g := (!b5 && p5)) (v := .pointer (some ⟨S, 30, none⟩)) (by cases b5 <;> cases p5 <;> rfl) (fun hg => by (go_simp)) ?_
  intro u69 hu69
  have Hu69 := Lib.hid hu69
  clear hu69
  simp only [Act.put, ly4, ly5, ly6]
  refine wpList_gu (g := (!b5 && p5)) (v := .agg (claC t).toArray) (by cases b5 <;> cases p5 <;> rfl) (fun hg => by (have eu69 := Hu69.out hg; subst eu69; exact run_ld37 (by rfl) (by go_simp) KL.out HL.out)) ?_
  intro u70 hu70
  have Hu70 := Lib.hid hu70
  clear hu70
  simp only [Act.put, ly4, ly5, ly6]
  refine wpList_gu (g := (!b5 && p5)) (v := .agg (claC tx0).toArray) (by cases b5 <;> cases p5 <;> rfl) (fun hg => by (exact run_bld37 rfl)) ?_
  intro u71 hu71
  have Hu71 := Lib.hid hu71
  clear hu71
  simp only [Act.put, ly4, ly5, ly6]
  refine wpList_gu (g := (!b5 && p5)) (v := .bool (!c6)) (by cases b5 <;> cases p5 <;> rfl) (fun hg => by (have eu70 := Hu70.out hg; subst eu70; have eu71 := Hu71.out hg; subst eu71; go_simp)) ?_
  intro u72 hu72
  have Hu72 := Lib.hid hu72
  clear hu72
  simp only [Act.put, ly4, ly5, ly6]
  refine wpList_gu (g := (!b5)) (v := .bool (p5 && !c6)) (want_f (i := 61) rfl rfl) (fun hg => by (cases b5 with | true => cases hg | false => cases p5 with | false => go_simp | true => (have e := Hu72.out rfl; subst e; go_simp))) ?_
  intro u73 hu73
  have Hu73 := Lib.hid hu73
  clear hu73
  simp only [Act.put, ly4, ly5, ly6]
  refine wpList_t (v := .bool b6) (by rfl) (by subst hb6; cases b5 with | true => go_simp | false => (have e := Hu73.out rfl; subst e; go_simp)) ?_
  simp only [Act.put, ly4, ly5, ly6]
  refine wpList_nil ?_
  show K _ _
  refine hKK _ _ ?_
  clear hKK K
  generalize (if (!b1) = true then Value.bool p2 else undef) = y15
  generalize (if (!b2) = true then Value.bool p2 else undef) = y30
  generalize (if (!b2) = true then Value.bool (p2 && p1) else undef) = y35
  generalize (if (!b3) = true then Value.bool p3 else undef) = y46
  generalize (if (!b4) = true then Value.bool p4 else undef) = y57
  generalize (if (!b5) = true then Value.bool p5 else undef) = y68
  clear hp1 hp2 hp3 hp4 hp5 hnh hns hnx hb1 hb2 hb3 hb4 hb5 hb6 EC w64 w65 CP CC
  clear Hu7 Hu8 Hu9 Hu12 Hu13 Hu14 Hu16 Hu17 Hu18 Hu19 Hu20 Hu21 Hu22 Hu23 Hu24 Hu27 Hu28 Hu29 Hu31 Hu32 Hu33 Hu34 Hu36 Hu37 Hu38 Hu39 Hu40 Hu43 Hu44 Hu45 Hu47 Hu48 Hu49 Hu50 Hu51 Hu54 Hu55 Hu56 Hu58 Hu59 Hu60 Hu61 Hu62 Hu65 Hu66 Hu67 Hu69 Hu70 Hu71 Hu72 Hu73
  cases b6
  · rw [Bool.not_false, Bool.true_and] at HM
    by_cases e1 : kd = 1
    · subst e1
      obtain ⟨co, hco⟩ : ∃ c, mOuts t.outs = c := ⟨_, rfl⟩
      have HCM : Hid (cm = (win 1 400 ht0 && co)) := by show _ = _; rw [← HF.out, fld_1 HK.out, hco, HH.out]
      have C := dOuts h.o.A t.outs.length h.o.c t.outs v54 (MM.out _ BC.out).o HW.out.outs rfl (MM.out _ BC.out).oc.le (MM.out _ BC.out).oc.mx
      rw [hco, NO.out] at C
      have CX := Lib.hid C
      clear C hco
      by_cases w1 : (1 : Int) ≤ ht0
      · by_cases w2 : ht0 ≤ 400
        · have ew : Hid (cm = co) := by show _ = _; rw [HCM.out, win_yes w1 w2]; rfl
          clear HCM
          go_wp2_with (first | (go_at_call 44; refine CX.out.mono ?_; rintro e w1 ⟨rfl, hb⟩; replace BC : Hid (Below S w w1) := Lib.hid (BC.out.trans (hb.mono (Nat.le_of_lt (bl_lt WC.out)))); clear hb) | fail)
          go_ret
          exact ⟨by rw [HM.out, ew.out] <;> rfl, by rw [HS.out]; exact BC.out⟩
        · have ew : Hid (cm = false) := by show _ = _; rw [HCM.out, win_no2 (by omega)]; rfl
          clear HCM CX
          go_wp2
          go_ret
          exact ⟨by rw [HM.out, ew.out] <;> rfl, by rw [HS.out]; exact BC.out⟩
      · have ew : Hid (cm = false) := by show _ = _; rw [HCM.out, win_no1 (by omega)]; rfl
        clear HCM CX
        go_wp2
        go_ret
        exact ⟨by rw [HM.out, ew.out] <;> rfl, by rw [HS.out]; exact BC.out⟩
    by_cases e2 : kd = 2
    · subst e2
      have C := dPay t h v54 HW.out (MM.out _ BC.out)
      rw [show mPay t = cm from by rw [← HF.out, fld_2 HK.out]] at C
      have CX := Lib.hid C
      clear C
      go_wp2_with (first
        | (refine wpList_load_midG (by rfl) 39 (.tmp 1) rfl S 0 rfl (txC t h) _ (range_of WC.out) Tryz.underlying39 rfl HT.out ?_)
        | (go_at_call 45; refine CX.out.mono ?_; rintro e w1 ⟨rfl, hb⟩; replace BC : Hid (Below S w w1) := Lib.hid (BC.out.trans (hb.mono (Nat.le_of_lt (bl_lt WC.out)))); clear hb)
        | fail)
      go_ret
      exact ⟨by rw [HM.out] <;> rfl, by rw [HS.out]; exact BC.out⟩
    by_cases e3 : kd = 3
    · subst e3
      have C := dPar t h v54 HW.out (MM.out _ BC.out)
      rw [show mCre t = cm from by rw [← HF.out, fld_3 HK.out]] at C
      have CX := Lib.hid C
      clear C
      go_wp2_with (first
        | (refine wpList_load_midG (by rfl) 27 (.tmp 98) rfl S 5 rfl (parC t h) _ KP.out Tryz.underlying27 rfl HP.out ?_)
        | (go_at_call 46; refine CX.out.mono ?_; rintro e w1 ⟨rfl, hb⟩; replace BC : Hid (Below S w w1) := Lib.hid (BC.out.trans (hb.mono (Nat.le_of_lt (bl_lt WC.out)))); clear hb)
        | fail)
      go_ret
      exact ⟨by rw [HM.out] <;> rfl, by rw [HS.out]; exact BC.out⟩
    by_cases e4 : kd = 4
    · subst e4
      have C := dCer t h v54 HW.out (MM.out _ BC.out)
      rw [show mCer t.cer t.couts t.csigs = cm from by rw [← HF.out, fld_4 HK.out]] at C
      have CX := Lib.hid C
      clear C
      go_wp2_with (first
        | (refine wpList_load_midG (by rfl) 32 (.tmp 103) rfl S 9 rfl (cerC t h) _ KC.out Tryz.underlying32 rfl HC.out ?_)
        | (go_at_call 47; refine CX.out.mono ?_; rintro e w1 ⟨rfl, hb⟩; replace BC : Hid (Below S w w1) := Lib.hid (BC.out.trans (hb.mono (Nat.le_of_lt (bl_lt WC.out)))); clear hb)
        | fail)
      go_ret
      exact ⟨by rw [HM.out] <;> rfl, by rw [HS.out]; exact BC.out⟩
    by_cases e5 : kd = 5
    · subst e5
      have C : Calls Tryz.prog 48 #[.agg (claC t).toArray] v54 fun e w' => e = .returned (.bool (mCla t.cla)) ∧ Below v54.heap.size v54 w' := by unfold claC; exact dCla t.cla v54 (okT_len HW.out.cla)
      rw [show mCla t.cla = cm from by rw [← HF.out, fld_5 HK.out]] at C
      have CX := Lib.hid C
      clear C
      go_wp2_with (first
        | (refine wpList_load_midG (by rfl) 37 (.tmp 108) rfl S 30 rfl (claC t) _ KL.out Tryz.underlying37 rfl HL.out ?_)
        | (go_at_call 48; refine CX.out.mono ?_; rintro e w1 ⟨rfl, hb⟩; replace BC : Hid (Below S w w1) := Lib.hid (BC.out.trans (hb.mono (Nat.le_of_lt (bl_lt WC.out)))); clear hb)
        | fail)
      go_ret
      exact ⟨by rw [HM.out] <;> rfl, by rw [HS.out]; exact BC.out⟩
    have ew : Hid (cm = false) := by show _ = _; rw [← HF.out, fld_no (by rw [HK.out]; exact e1) (by rw [HK.out]; exact e2) (by rw [HK.out]; exact e3) (by rw [HK.out]; exact e4) (by rw [HK.out]; exact e5)]
    go_wp2
    go_ret
    exact ⟨by rw [HM.out, ew.out] <;> rfl, by rw [HS.out]; exact BC.out⟩
  · go_wp2
    go_ret
    exact ⟨by rw [HM.out] <;> rfl, by rw [HS.out]; exact BC.out⟩
end Go.Proofs.YtffaddefnpkcgaaGreatDoor

