/-
  The walk of KeytreePaths.
-/
import Derived.Test.YtkmfmkonejdjiaaDoorK9
import Derived.Test.YtkmfmkonejdjiaaDoorK10
namespace Go.Proofs.YtkmfmkonejdjiaaDoor
open Go.RowKit
theorem run_b23 (p : Int) (w : World) : (Instr.build 23 #[(0, .int .u8 2), (1, .int .u8 p)]).run Tryd.prog w = .ok (.agg (ba [2, p, 0, 0, 0, 0, 0, 0])) w := by kernel_rfl
theorem wpList_b23 {ops : Array Oper} {rest : List Oper} {o : Oper} {a : Act} {w : World} {Q : Exit → Act → World → Prop} (hg : o.guard = none) (x y : Operand) (ho : o.op = .build 23 #[(0, x), (1, y)]) (p : Int) (xm : List Int) (he : xm = [2, p, 0, 0, 0, 0, 0, 0]) (hx : a.eval x = .int .u8 2) (hy : a.eval y = .int .u8 p)
    (hK : wpList Tryd.prog ops Q rest (a.put o.dst (.agg (ba xm))) w) : wpList Tryd.prog ops Q (o :: rest) a w := by
  subst he
  refine wpList_plain hg fun K hK' => ?_
  unfold Oper.wp execOp
  have hp : (#[(0, x), (1, y)] : Array (Nat × Operand)).map (fun (i, x) => (i, a.eval x)) = #[(0, .int .u8 2), (1, .int .u8 p)] := by simp [hx, hy]
  simp only [ho, hp, Sem.run_bind, run_b23 p w, Result.andThen_ok]
  exact hK' _ _ hK
attribute [local irreducible] ua da ba kk sw S8.run rt hs comp splice outB sha msg bvals cat at8 at16 secM zeros sec keyF marksF mk pubk bt openF shutF readF splR oF sF rootF leafH twoH stepsF cutN leadF provL rootV pubF pubs keyL opn sht way gives ckB chkB rootL sg opL shL sigL wayP wayL
set_option maxRecDepth 100000 in
set_option maxHeartbeats 16000000 in
theorem q6 (seed n2 : List Int) (w : World) (hk : Keys w) (hs : seed.length = 8) (hn : n2.length = 2) (hbn : Byt n2) :
    Calls Tryd.prog 6 #[.agg (ba seed), .agg (ba n2)] w fun e w' => e = .returned (.bool true) ∧ Below w.heap.size w w' := by
  have h4 := z30
  have h5 := z27
  have HK := Lib.hid hk
  have HP : Hid (0 < w.heap.size) := keys_pos hk
  have HSL := Lib.hid hs
  obtain ⟨S, hS⟩ : ∃ S, w.heap.size = S := ⟨_, rfl⟩
  have HS := Lib.hid hS
  have KW : Hid (∀ w', Below S w w' → Keys w') := fun w' hb => keys_below HK.out hb (by rw [← HS.out]; exact HP.out)
  have E0 := Lib.hid (ba_old (ba_new hS seed 23) (Obj.cells (ba n2) 38))
  have N0 := Lib.hid (ba_new (size_al hS (Obj.cells (ba seed) 23)) n2 38)
  have B0 : Hid (Below S w ((w.alloc (Obj.cells (ba seed) 23)).alloc (Obj.cells (ba n2) 38))) := by subst hS; exact ((Below.refl _ w).alloc (Nat.le_refl _) _).alloc (by simp) _
  have C7 := Lib.hid (kAwake ((w.alloc (Obj.cells (ba seed) 23)).alloc (Obj.cells (ba n2) 38)) (KW.out _ B0.out))
  obtain ⟨p, q, hn2, hp, hq⟩ : ∃ p q : Nat, n2 = [(p : Int), (q : Int)] ∧ p < 256 ∧ q < 256 := by
    match n2, hn with
    | [a, b], _ =>
      have ha := hbn a (by simp)
      have hb := hbn b (by simp)
      exact ⟨a.toNat, b.toNat, by rw [Int.toNat_of_nonneg ha.1, Int.toNat_of_nonneg hb.1], by omega, by omega⟩
  have CP : Hid (∀ w' : World, BA w' (S + 1) 38 n2 → w'.cell? ⟨S + 1, 0, none⟩ = some (.int .u8 (p : Int))) := fun w' h => by
    have := ba_cell h 0 (by rw [hn2]; show _ < 2; omega)
    rw [hn2] at this
    exact this
  have CQ : Hid (∀ w' : World, BA w' (S + 1) 38 n2 → w'.cell? ⟨S + 1, 1, none⟩ = some (.int .u8 (q : Int))) := fun w' h => by
    have := ba_cell h 1 (by rw [hn2]; show _ < 2; omega)
    rw [hn2] at this
    exact this
  obtain ⟨i, hi⟩ : ∃ i, p % 8 = i := ⟨_, rfl⟩
  obtain ⟨k, hk'⟩ : ∃ k, q % 8 = k := ⟨_, rfl⟩
  have hi8 : i < 8 := by omega
  have hk8 : k < 8 := by omega
  have cp : IntKind.i64.wrap (p : Int) = (p : Int) := by rw [IntKind.wrap_i64]; omega
  have mp : (p : Int).tmod 8 = (i : Int) := by rw [← hi]; simp [Int.tmod]
  have wi : IntKind.i64.wrap (i : Int) = (i : Int) := by rw [IntKind.wrap_i64]; omega
  have cq : IntKind.i64.wrap (q : Int) = (q : Int) := by rw [IntKind.wrap_i64]; omega
  have mq : (q : Int).tmod 8 = (k : Int) := by rw [← hk']; simp [Int.tmod]
  have wk : IntKind.i64.wrap (k : Int) = (k : Int) := by rw [IntKind.wrap_i64]; omega
  obtain ⟨xm, hxm⟩ : ∃ l, [2, (p : Int), 0, 0, 0, 0, 0, 0] = l := ⟨_, rfl⟩
  have LX : Hid (xm.length = 8) := by rw [← hxm]; rfl
  have BX : Hid (Byt xm) := by
    rw [← hxm]
    intro x hx
    simp at hx
    rcases hx with rfl | rfl | rfl <;> omega
  have HXM : Hid (xm = [2, (p : Int), 0, 0, 0, 0, 0, 0]) := hxm.symm
  obtain ⟨La, hLa⟩ : ∃ L, sigL seed i xm = L := ⟨_, rfl⟩
  obtain ⟨Lb, hLb⟩ : ∃ L, sigL seed k xm = L := ⟨_, rfl⟩
  obtain ⟨pb, hpb⟩ : ∃ l, way Lb = l := ⟨_, rfl⟩
  obtain ⟨Lc, hLc⟩ : ∃ L, splR La 256 pb = L := ⟨_, rfl⟩
  obtain ⟨Q, hQ⟩ : ∃ Q, rootL seed = Q := ⟨_, rfl⟩
  have LLa : Hid (La.length = 280) := by rw [← hLa]; exact sigL_len _ _ _
  have LLb : Hid (Lb.length = 280) := by rw [← hLb]; exact sigL_len _ _ _
  have LPB : Hid (pb.length = 24) := by rw [← hpb]; exact way_len LLb.out
  have LLc : Hid (Lc.length = 280) := by rw [← hLc, splR_len]; exact LLa.out
  have LQ : Hid (Q.length = 8) := by rw [← hQ]; exact rootL_len _
  have HPB : Hid (way Lb = pb) := hpb
  have HLC : Hid (splR La 256 pb = Lc) := hLc
  have HAB : Hid (i = k → Lb = La) := fun e => by rw [← hLa, ← hLb, e]
  have C8 : Hid (∀ w', Below S w w' → Calls Tryd.prog 8 #[.agg (ba seed)] w' fun e w'' => ∃ T gk ck gp cp ks, e = .returned (.pointer (some ⟨T, 0, none⟩)) ∧ w'.heap.size ≤ T ∧ TA w'' T seed gk ck gp cp ks ∧ Below w'.heap.size w' w'') := fun w' hb => kNew seed w' (KW.out w' hb) hs
  have C9A : Hid (∀ (T gk ck gp cp : Nat) (ks : Nat → Nat) (w' : World), Below S w w' → TA w' T seed gk ck gp cp ks → Calls Tryd.prog 9 #[.pointer (some ⟨T, 0, none⟩), .int .i64 i, .agg (ba xm)] w' fun e w'' => e = .returned (.tuple #[.agg (sg i La).toArray, .bool true]) ∧ Below w'.heap.size w' w'') := fun T gk ck gp cp ks w' hb hT => by
    have := kSign seed xm i T gk ck gp cp ks w' (KW.out w' hb) hT LX.out BX.out hi8
    rw [hLa] at this
    exact this
  have C9B : Hid (∀ (T gk ck gp cp : Nat) (ks : Nat → Nat) (w' : World), Below S w w' → TA w' T seed gk ck gp cp ks → Calls Tryd.prog 9 #[.pointer (some ⟨T, 0, none⟩), .int .i64 k, .agg (ba xm)] w' fun e w'' => e = .returned (.tuple #[.agg (sg k Lb).toArray, .bool true]) ∧ Below w'.heap.size w' w'') := fun T gk ck gp cp ks w' hb hT => by
    have := kSign seed xm k T gk ck gp cp ks w' (KW.out w' hb) hT LX.out BX.out hk8
    rw [hLb] at this
    exact this
  have C11A : Hid (∀ (T gk ck gp cp : Nat) (ks : Nat → Nat) (w' : World), Below S w w' → TA w' T seed gk ck gp cp ks → Calls Tryd.prog 11 #[.pointer (some ⟨T, 0, none⟩)] w' fun e w'' => e = .returned (.agg (ba Q)) ∧ Below w'.heap.size w' w'') := fun T gk ck gp cp ks w' hb hT => by
    have := kRoot seed T gk ck gp cp ks w' (KW.out w' hb) hT
    rw [hQ] at this
    exact this
  obtain ⟨vc, hvc⟩ : ∃ v, ckB Q xm i Lc = v := ⟨_, rfl⟩
  obtain ⟨ve, hve⟩ : ∃ v, ckB Q xm k La = v := ⟨_, rfl⟩
  have C13c : Hid (∀ w', Below S w w' → Calls Tryd.prog 13 #[.agg (ba Q), .agg (bvals xm).toArray, .agg (sg i Lc).toArray] w' fun e w'' => e = .returned (.bool vc) ∧ Below w'.heap.size w' w'') := fun w' hb => by
    have := kCheck Q xm i Lc w' (KW.out w' hb) LQ.out LX.out BX.out LLc.out
    rw [hvc, ba_bvals xm] at this
    exact this
  have C14c : Hid (∀ w', Below S w w' → Calls Tryd.prog 14 #[.agg (ba Q), .agg (bvals xm).toArray, .agg (sg i Lc).toArray] w' fun e w'' => e = .returned (.bool vc) ∧ Below w'.heap.size w' w'') := fun w' hb => by
    have := dCheck Q xm i Lc w' (KW.out w' hb) LQ.out LX.out BX.out LLc.out
    rw [hvc, ba_bvals xm] at this
    exact this
  have C13e : Hid (∀ w', Below S w w' → Calls Tryd.prog 13 #[.agg (ba Q), .agg (bvals xm).toArray, .agg (sg k La).toArray] w' fun e w'' => e = .returned (.bool ve) ∧ Below w'.heap.size w' w'') := fun w' hb => by
    have := kCheck Q xm k La w' (KW.out w' hb) LQ.out LX.out BX.out LLa.out
    rw [hve, ba_bvals xm] at this
    exact this
  have C14e : Hid (∀ w', Below S w w' → Calls Tryd.prog 14 #[.agg (ba Q), .agg (bvals xm).toArray, .agg (sg k La).toArray] w' fun e w'' => e = .returned (.bool ve) ∧ Below w'.heap.size w' w'') := fun w' hb => by
    have := dCheck Q xm k La w' (KW.out w' hb) LQ.out LX.out BX.out LLa.out
    rw [hve, ba_bvals xm] at this
    exact this
  have f2 := fun w => eq_sig k La LLa.out w
  have him := inf23 xm LX.out
  clear hk hs hn hbn hn2 hi hk' hp hq hi8 hk8 hxm hLa hLb hpb hLc hQ hvc hve
  go_enter Tryd.func6, Tryd.ntmps6
  go_upto_region 6 with (first
    | (go_at_call 7
       refine C7.out.mono ?_
       rintro e w1 ⟨rfl, hb⟩
       have E1 : Hid (BA w1 S 23 seed) := (hb.block _ (lt_of_block E0.out)).trans E0.out
       have M1 : Hid (BA w1 (S + 1) 38 n2) := (hb.block _ (lt_of_block N0.out)).trans N0.out
       have B1 : Hid (Below S w w1) := B0.out.trans (hb.mono (by have := lt_of_block N0.out; omega))
       clear hb E0 N0 B0 C7 hS)
    | (refine wpList_load_row rfl 23 (.tmp 2) rfl S rfl 23 (ba seed) (0, 0) _ E1.out Tryd.underlying23 rfl (sz s27 (by rw [ba_size, HSL.out])) ?_)
    | (go_at_call 8
       refine (C8.out w1 B1.out).mono ?_
       rintro e v1 ⟨T, gk, ck, gp, cpp, ks, rfl, hTS, hT, hb⟩
       have TT := Lib.hid hT
       have M2 : Hid (BA v1 (S + 1) 38 n2) := (hb.block _ (lt_of_block M1.out)).trans M1.out
       have B2 : Hid (Below S w v1) := B1.out.trans (hb.mono (by have := lt_of_block M1.out; omega))
       obtain ⟨N1, hN1⟩ : ∃ N, v1.heap.size = N := ⟨_, rfl⟩
       have WN1 : Hid (v1.heap.size = N1) := hN1
       have LN1 : Hid (S + 1 < N1) := by show _ < _; rw [← hN1]; exact lt_of_block M2.out
       have BV : Hid (Below N1 v1 v1) := Below.refl _ _
       have SVv1 : Hid (N1 ≤ v1.heap.size) := Nat.le_of_eq hN1.symm
       have KN1 : Hid (∀ w', Below N1 v1 w' → Below S w w') := fun w' hb => B2.out.trans (hb.mono (by have := LN1.out; omega))
       have TN1 : Hid (∀ w', Below N1 v1 w' → TA w' T seed gk ck gp cpp ks) := fun w' hb => TT.out.keep (by rw [WN1.out]; exact hb)
       have NN1 : Hid (∀ w', Below N1 v1 w' → BA w' (S + 1) 38 n2) := fun w' hb => (hb.block _ LN1.out).trans M2.out
       have cp1 := CP.out _ M2.out
       have C9a := Lib.hid (C9A.out T gk ck gp cpp ks)
       have C9b := Lib.hid (C9B.out T gk ck gp cpp ks)
       have C11 := Lib.hid (C11A.out T gk ck gp cpp ks)
       clear hT hb hTS C8 C9A C9B C11A E1 M1 B1 hN1
       obtain ⟨M, hM⟩ : ∃ q, v1.heap.size = q := ⟨_, rfl⟩
       have Y0a := Lib.hid (ba_new hM (zeros 8) 23)
       have MS : Hid (N1 ≤ M) := by show _ ≤ _; rw [← hM]; exact SVv1.out)
    | fail)
  go_upto_region 7 with (first
    | (refine wpList_b23 rfl (.const (.int .u8 2)) (.tmp 20) rfl p xm HXM.out rfl rfl ?_)
    | (refine wpList_store_rowTo rfl 23 (.tmp 6) (.tmp 21) rfl rfl M (ba xm) rfl rfl 23 (ba (zeros 8)) Y0a.out (sz s27 (by rw [ba_size, LX.out])) (by rw [ba_size, ba_size, LX.out, zeros_len]) (ba_one xm) ?_
       have Ya : Hid (BA ((v1.alloc (Obj.cells (ba (zeros 8)) 23)).setRow M (ba xm)) M 23 xm) := setRow_heap _ _ _ _ _ _ Y0a.out
       have BWa : Hid (Below M v1 ((v1.alloc (Obj.cells (ba (zeros 8)) 23)).setRow M (ba xm))) := below_setRow ((Below.refl _ _).alloc (Nat.le_of_eq hM.symm) _) (Nat.le_refl _) _
       have BVa : Hid (Below N1 v1 ((v1.alloc (Obj.cells (ba (zeros 8)) 23)).setRow M (ba xm))) := BV.out.trans (BWa.out.mono MS.out)
       have LAa : Hid (M < ((v1.alloc (Obj.cells (ba (zeros 8)) 23)).setRow M (ba xm)).heap.size) := lt_of_block Ya.out
       have SVv2 : Hid (N1 ≤ ((v1.alloc (Obj.cells (ba (zeros 8)) 23)).setRow M (ba xm)).heap.size) := Nat.le_trans MS.out (Nat.le_of_lt LAa.out)
       clear Y0a BWa hM  BV
       generalize ((v1.alloc (Obj.cells (ba (zeros 8)) 23)).setRow M (ba xm)) = v2 at *
       have cp2 := CP.out _ (NN1.out _ BVa.out))
    | fail)
  go_upto_region 8 with (first
    | (refine wpList_load_row rfl 23 (.tmp 6) rfl M rfl 23 (ba xm) (0, 0) _ Ya.out Tryd.underlying23 rfl (sz s27 (by rw [ba_size, LX.out])) ?_)
    | (go_at_call 9
       refine (C9a.out v2 (KN1.out _ BVa.out) (TN1.out _ BVa.out)).mono ?_
       rintro e u2 ⟨rfl, hb⟩
       have Ya_i : Hid (BA u2 M 23 xm) := (hb.block _ (lt_of_block Ya.out)).trans Ya.out
       have BVa_i : Hid (Below N1 v1 u2) := BVa.out.trans (hb.mono SVv2.out)
       have SVu2 : Hid (N1 ≤ u2.heap.size) := Nat.le_trans SVv2.out hb.size
       clear hb Ya BVa
       have Ya := Ya_i
       have BVa := BVa_i
       clear Ya_i BVa_i
       clear C9a
       obtain ⟨A, hA⟩ : ∃ q, u2.heap.size = q := ⟨_, rfl⟩
       have Y0b := Lib.hid (sb_new hA 0 (zeros 280))
       have AS : Hid (N1 ≤ A) := by show _ ≤ _; rw [← hA]; exact SVu2.out)
    | (refine wpList_store_rowTo rfl 30 (.tmp 7) (.tmp 30) rfl rfl A (sg (i) La).toArray rfl rfl 30 (sg 0 (zeros 280)).toArray Y0b.out (sg_infoA _ _ LLa.out) ((sg_size _ _ (zeros_len 280)).trans (sg_size _ _ LLa.out).symm) (sg_ones _ _) ?_
       have Yb : Hid (SB ((u2.alloc (Obj.cells (sg 0 (zeros 280)).toArray 30)).setRow A (sg (i) La).toArray) A (i) La) := setRow_heap _ _ _ _ _ _ Y0b.out
       have BWb : Hid (Below A u2 ((u2.alloc (Obj.cells (sg 0 (zeros 280)).toArray 30)).setRow A (sg (i) La).toArray)) := below_setRow ((Below.refl _ _).alloc (Nat.le_of_eq hA.symm) _) (Nat.le_refl _) _
       have Yab : Hid (BA ((u2.alloc (Obj.cells (sg 0 (zeros 280)).toArray 30)).setRow A (sg (i) La).toArray) M 23 xm) := (BWb.out.block _ (by rw [← hA]; exact lt_of_block Ya.out)).trans Ya.out
       have BVab : Hid (Below N1 v1 ((u2.alloc (Obj.cells (sg 0 (zeros 280)).toArray 30)).setRow A (sg (i) La).toArray)) := BVa.out.trans (BWb.out.mono AS.out)
       have LAb : Hid (A < ((u2.alloc (Obj.cells (sg 0 (zeros 280)).toArray 30)).setRow A (sg (i) La).toArray).heap.size) := sb_lt Yb.out
       have SVv3 : Hid (N1 ≤ ((u2.alloc (Obj.cells (sg 0 (zeros 280)).toArray 30)).setRow A (sg (i) La).toArray).heap.size) := Nat.le_trans AS.out (Nat.le_of_lt LAb.out)
       clear Y0b BWb hA Ya BVa
       generalize ((u2.alloc (Obj.cells (sg 0 (zeros 280)).toArray 30)).setRow A (sg (i) La).toArray) = v3 at *
       have cq3 := CQ.out _ (NN1.out _ BVab.out)
       clear cp2)
    | fail)
  go_upto_region 9 with (first
    | (refine wpList_load_row rfl 23 (.tmp 6) rfl M rfl 23 (ba xm) (0, 0) _ Yab.out Tryd.underlying23 rfl (sz s27 (by rw [ba_size, LX.out])) ?_)
    | (go_at_call 9
       refine (C9b.out v3 (KN1.out _ BVab.out) (TN1.out _ BVab.out)).mono ?_
       rintro e u3 ⟨rfl, hb⟩
       have Yab_i : Hid (BA u3 M 23 xm) := (hb.block _ (lt_of_block Yab.out)).trans Yab.out
       have Yb_i : Hid (SB u3 A i La) := (hb.block _ (lt_of_block Yb.out)).trans Yb.out
       have BVab_i : Hid (Below N1 v1 u3) := BVab.out.trans (hb.mono SVv3.out)
       have SVu3 : Hid (N1 ≤ u3.heap.size) := Nat.le_trans SVv3.out hb.size
       clear hb Yab Yb BVab
       have Yab := Yab_i
       have Yb := Yb_i
       have BVab := BVab_i
       clear Yab_i Yb_i BVab_i
       clear C9b
       obtain ⟨D, hD⟩ : ∃ q, u3.heap.size = q := ⟨_, rfl⟩
       have Y0c := Lib.hid (sb_new hD 0 (zeros 280))
       have DS : Hid (N1 ≤ D) := by show _ ≤ _; rw [← hD]; exact SVu3.out)
    | (refine wpList_store_rowTo rfl 30 (.tmp 9) (.tmp 40) rfl rfl D (sg (k) Lb).toArray rfl rfl 30 (sg 0 (zeros 280)).toArray Y0c.out (sg_infoA _ _ LLb.out) ((sg_size _ _ (zeros_len 280)).trans (sg_size _ _ LLb.out).symm) (sg_ones _ _) ?_
       have Yc : Hid (SB ((u3.alloc (Obj.cells (sg 0 (zeros 280)).toArray 30)).setRow D (sg (k) Lb).toArray) D (k) Lb) := setRow_heap _ _ _ _ _ _ Y0c.out
       have BWc : Hid (Below D u3 ((u3.alloc (Obj.cells (sg 0 (zeros 280)).toArray 30)).setRow D (sg (k) Lb).toArray)) := below_setRow ((Below.refl _ _).alloc (Nat.le_of_eq hD.symm) _) (Nat.le_refl _) _
       have Yabc : Hid (BA ((u3.alloc (Obj.cells (sg 0 (zeros 280)).toArray 30)).setRow D (sg (k) Lb).toArray) M 23 xm) := (BWc.out.block _ (by rw [← hD]; exact lt_of_block Yab.out)).trans Yab.out
       have Ybc : Hid (SB ((u3.alloc (Obj.cells (sg 0 (zeros 280)).toArray 30)).setRow D (sg (k) Lb).toArray) A i La) := (BWc.out.block _ (by rw [← hD]; exact lt_of_block Yb.out)).trans Yb.out
       have BVabc : Hid (Below N1 v1 ((u3.alloc (Obj.cells (sg 0 (zeros 280)).toArray 30)).setRow D (sg (k) Lb).toArray)) := BVab.out.trans (BWc.out.mono DS.out)
       have LAc : Hid (D < ((u3.alloc (Obj.cells (sg 0 (zeros 280)).toArray 30)).setRow D (sg (k) Lb).toArray).heap.size) := sb_lt Yc.out
       have SVv4 : Hid (N1 ≤ ((u3.alloc (Obj.cells (sg 0 (zeros 280)).toArray 30)).setRow D (sg (k) Lb).toArray).heap.size) := Nat.le_trans DS.out (Nat.le_of_lt LAc.out)
       clear Y0c BWc hD Yab Yb BVab
       generalize ((u3.alloc (Obj.cells (sg 0 (zeros 280)).toArray 30)).setRow D (sg (k) Lb).toArray) = v4 at *
       clear cq3
       obtain ⟨C, hC⟩ : ∃ q, v4.heap.size = q := ⟨_, rfl⟩
       have Y0d := Lib.hid (sb_new hC 0 (zeros 280))
       have CS : Hid (N1 ≤ C) := by show _ ≤ _; rw [← hC]; exact SVv4.out
       have ACl : Hid (A < C) := by show _ < _; rw [← hC]; exact sb_lt Ybc.out
       have DCl : Hid (D < C) := by show _ < _; rw [← hC]; exact sb_lt Yc.out)
    | fail)
  go_upto_region 11 with fail
  go_upto_region 12 with (first
    | (refine wpList_load_row rfl 30 (.tmp 7) rfl A rfl 30 (sg i La).toArray (0, 0) _ Ybc.out Tryd.underlying30 rfl (sg_infoA _ _ LLa.out) ?_)
    | (refine wpList_store_rowTo rfl 30 (.tmp 11) (.tmp 48) rfl rfl C (sg (i) La).toArray rfl rfl 30 (sg 0 (zeros 280)).toArray Y0d.out (sg_infoA _ _ LLa.out) ((sg_size _ _ (zeros_len 280)).trans (sg_size _ _ LLa.out).symm) (sg_ones _ _) ?_
       have Yd : Hid (SB ((v4.alloc (Obj.cells (sg 0 (zeros 280)).toArray 30)).setRow C (sg (i) La).toArray) C (i) La) := setRow_heap _ _ _ _ _ _ Y0d.out
       have BWd : Hid (Below C v4 ((v4.alloc (Obj.cells (sg 0 (zeros 280)).toArray 30)).setRow C (sg (i) La).toArray)) := below_setRow ((Below.refl _ _).alloc (Nat.le_of_eq hC.symm) _) (Nat.le_refl _) _
       have Yabcd : Hid (BA ((v4.alloc (Obj.cells (sg 0 (zeros 280)).toArray 30)).setRow C (sg (i) La).toArray) M 23 xm) := (BWd.out.block _ (by rw [← hC]; exact lt_of_block Yabc.out)).trans Yabc.out
       have Ybcd : Hid (SB ((v4.alloc (Obj.cells (sg 0 (zeros 280)).toArray 30)).setRow C (sg (i) La).toArray) A i La) := (BWd.out.block _ (by rw [← hC]; exact lt_of_block Ybc.out)).trans Ybc.out
       have Ycd : Hid (SB ((v4.alloc (Obj.cells (sg 0 (zeros 280)).toArray 30)).setRow C (sg (i) La).toArray) D k Lb) := (BWd.out.block _ (by rw [← hC]; exact lt_of_block Yc.out)).trans Yc.out
       have BVabcd : Hid (Below N1 v1 ((v4.alloc (Obj.cells (sg 0 (zeros 280)).toArray 30)).setRow C (sg (i) La).toArray)) := BVabc.out.trans (BWd.out.mono CS.out)
       have LAd : Hid (C < ((v4.alloc (Obj.cells (sg 0 (zeros 280)).toArray 30)).setRow C (sg (i) La).toArray).heap.size) := sb_lt Yd.out
       have SVv5 : Hid (N1 ≤ ((v4.alloc (Obj.cells (sg 0 (zeros 280)).toArray 30)).setRow C (sg (i) La).toArray).heap.size) := Nat.le_trans CS.out (Nat.le_of_lt LAd.out)
       clear Y0d BWd hC Yabc Ybc Yc BVabc
       generalize ((v4.alloc (Obj.cells (sg 0 (zeros 280)).toArray 30)).setRow C (sg (i) La).toArray) = v5 at *)
    | fail)
  go_upto_region 13 with (first
    | (refine wpList_load_mid rfl 28 (.tmp 49) rfl D 257 rfl (bvals pb) _ (by rw [← HPB.out]; exact sb_wayr Ycd.out LLb.out) Tryd.underlying28 rfl (inf28 pb LPB.out) ?_
       rw [← ba_bvals pb])
    | (refine wpList_store_mid rfl 28 (.tmp 51) (.tmp 50) rfl C 257 (ba pb) rfl rfl (by rw [ba_size, LPB.out]; exact sb_there Yd.out 257 24 (by rw [LLa.out]; omega)) (sz i28 (by rw [ba_size, LPB.out])) (ba_one _) ?_
       rw [ba_toList]
       have C6 : Hid (SB (v5.setCells C 257 (bvals pb)) C i Lc) := by have := sb_sets pb 256 Yd.out; rw [HLC.out] at this; exact this
       have nAC : A ≠ C := fun e => by have := ACl.out; omega
       have nDC : D ≠ C := fun e => by have := DCl.out; omega
       have nMC : M ≠ C := types_ne Yabcd.out Yd.out (by decide)
       have A6 : Hid (SB (v5.setCells C 257 (bvals pb)) A i La) := (heap_setCells nAC _ _ _).trans Ybcd.out
       have D6 : Hid (SB (v5.setCells C 257 (bvals pb)) D k Lb) := (heap_setCells nDC _ _ _).trans Ycd.out
       have M6 : Hid (BA (v5.setCells C 257 (bvals pb)) M 23 xm) := (heap_setCells nMC _ _ _).trans Yabcd.out
       have BV6 : Hid (Below N1 v1 (v5.setCells C 257 (bvals pb))) := below_setCells CS.out _ _ BVabcd.out
       have SVv6 : Hid (N1 ≤ (v5.setCells C 257 (bvals pb)).heap.size) := Nat.le_trans CS.out (Nat.le_of_lt (sb_lt C6.out))
       clear Yd Yabcd Ybcd Ycd BVabcd nAC nDC nMC
       generalize v5.setCells C 257 (bvals pb) = v6 at *
       obtain ⟨E, hE⟩ : ∃ q, v6.heap.size = q := ⟨_, rfl⟩
       have Y0e := Lib.hid (sb_new hE 0 (zeros 280))
       have ES : Hid (N1 ≤ E) := by show _ ≤ _; rw [← hE]; exact SVv6.out
       have EL : Hid (A < E ∧ D < E ∧ C < E ∧ M < E) := by show _ ∧ _; rw [← hE]; exact ⟨sb_lt A6.out, sb_lt D6.out, sb_lt C6.out, lt_of_block M6.out⟩)
    | fail)
  go_upto_region 14 with (first
    | (refine wpList_load_row rfl 30 (.tmp 7) rfl A rfl 30 (sg i La).toArray (0, 0) _ A6.out Tryd.underlying30 rfl (sg_infoA _ _ LLa.out) ?_)
    | (refine wpList_store_rowTo rfl 30 (.tmp 12) (.tmp 52) rfl rfl E (sg (i) La).toArray rfl rfl 30 (sg 0 (zeros 280)).toArray Y0e.out (sg_infoA _ _ LLa.out) ((sg_size _ _ (zeros_len 280)).trans (sg_size _ _ LLa.out).symm) (sg_ones _ _) ?_
       have Ye : Hid (SB ((v6.alloc (Obj.cells (sg 0 (zeros 280)).toArray 30)).setRow E (sg (i) La).toArray) E (i) La) := setRow_heap _ _ _ _ _ _ Y0e.out
       have BWe : Hid (Below E v6 ((v6.alloc (Obj.cells (sg 0 (zeros 280)).toArray 30)).setRow E (sg (i) La).toArray)) := below_setRow ((Below.refl _ _).alloc (Nat.le_of_eq hE.symm) _) (Nat.le_refl _) _
       have M6e : Hid (BA ((v6.alloc (Obj.cells (sg 0 (zeros 280)).toArray 30)).setRow E (sg (i) La).toArray) M 23 xm) := (BWe.out.block _ (by rw [← hE]; exact lt_of_block M6.out)).trans M6.out
       have A6e : Hid (SB ((v6.alloc (Obj.cells (sg 0 (zeros 280)).toArray 30)).setRow E (sg (i) La).toArray) A i La) := (BWe.out.block _ (by rw [← hE]; exact lt_of_block A6.out)).trans A6.out
       have D6e : Hid (SB ((v6.alloc (Obj.cells (sg 0 (zeros 280)).toArray 30)).setRow E (sg (i) La).toArray) D k Lb) := (BWe.out.block _ (by rw [← hE]; exact lt_of_block D6.out)).trans D6.out
       have C6e : Hid (SB ((v6.alloc (Obj.cells (sg 0 (zeros 280)).toArray 30)).setRow E (sg (i) La).toArray) C i Lc) := (BWe.out.block _ (by rw [← hE]; exact lt_of_block C6.out)).trans C6.out
       have BV6e : Hid (Below N1 v1 ((v6.alloc (Obj.cells (sg 0 (zeros 280)).toArray 30)).setRow E (sg (i) La).toArray)) := BV6.out.trans (BWe.out.mono ES.out)
       have LAe : Hid (E < ((v6.alloc (Obj.cells (sg 0 (zeros 280)).toArray 30)).setRow E (sg (i) La).toArray).heap.size) := sb_lt Ye.out
       have SVv7 : Hid (N1 ≤ ((v6.alloc (Obj.cells (sg 0 (zeros 280)).toArray 30)).setRow E (sg (i) La).toArray).heap.size) := Nat.le_trans ES.out (Nat.le_of_lt LAe.out)
       clear Y0e BWe hE M6 A6 D6 C6 BV6
       generalize ((v6.alloc (Obj.cells (sg 0 (zeros 280)).toArray 30)).setRow E (sg (i) La).toArray) = v7 at *
       have cD7 := sb_cell0 D6e.out
       have cE7 := sb_cell0 Ye.out
       have fE7 := sb_free Ye.out 0)
    | fail)
  go_upto_region 15 with fail
  have YM : Hid (BA (v7.setCell ⟨E, 0, none⟩ (.int .i64 k)) M 23 xm) := (heap_setCell_other v7 ⟨E, 0, none⟩ M _ (by have := EL.out; show M ≠ E; omega)).trans M6e.out
  have YA : Hid (SB (v7.setCell ⟨E, 0, none⟩ (.int .i64 k)) A i La) := (heap_setCell_other v7 ⟨E, 0, none⟩ A _ (by have := EL.out; show A ≠ E; omega)).trans A6e.out
  have YD : Hid (SB (v7.setCell ⟨E, 0, none⟩ (.int .i64 k)) D k Lb) := (heap_setCell_other v7 ⟨E, 0, none⟩ D _ (by have := EL.out; show D ≠ E; omega)).trans D6e.out
  have YC : Hid (SB (v7.setCell ⟨E, 0, none⟩ (.int .i64 k)) C i Lc) := (heap_setCell_other v7 ⟨E, 0, none⟩ C _ (by have := EL.out; show C ≠ E; omega)).trans C6e.out
  have YE : Hid (SB (v7.setCell ⟨E, 0, none⟩ (.int .i64 k)) E k La) := sb_idx Ye.out k
  have BB : Hid (Below N1 v1 (v7.setCell ⟨E, 0, none⟩ (.int .i64 k))) := BV6e.out.setCell ES.out _
  clear M6e A6e D6e C6e Ye BV6e cD7 cE7 fE7 cp1 cp mp wi cq mq wk h4 h5
  generalize v7.setCell ⟨E, 0, none⟩ (.int .i64 k) = wB at *
  obtain ⟨N, hN⟩ : ∃ N, wB.heap.size = N := ⟨_, rfl⟩
  have WN : Hid (wB.heap.size = N) := hN
  have LN : Hid (M < N ∧ A < N ∧ D < N ∧ C < N ∧ E < N ∧ N1 ≤ N) := by show _ ∧ _; rw [← hN]; exact ⟨lt_of_block YM.out, sb_lt YA.out, sb_lt YD.out, sb_lt YC.out, sb_lt YE.out, Nat.le_trans ES.out (Nat.le_of_lt (sb_lt YE.out))⟩
  have KN : Hid (∀ w', Below N wB w' → Below S w w') := fun w' hb => KN1.out _ (BB.out.trans (hb.mono LN.out.2.2.2.2.2))
  have TN : Hid (∀ w', Below N wB w' → TA w' T seed gk ck gp cpp ks) := fun w' hb => TN1.out _ (BB.out.trans (hb.mono LN.out.2.2.2.2.2))
  have hvc : (vc == vc) = true := by simp
  have hve : (ve == ve) = true := by simp
  clear hN
  by_cases hik : i = k
  · rw [HAB.out hik] at YD
    subst hik
    have IA : Hid (∀ w' : World, w'.heap[A]? = wB.heap[A]? → w'.cell? ⟨A, 0, none⟩ = some (.int .i64 i)) := fun w' h => sb_cell0 (L := La) (h.trans YA.out)
    have ID : Hid (∀ w' : World, w'.heap[D]? = wB.heap[D]? → w'.cell? ⟨D, 0, none⟩ = some (.int .i64 i)) := fun w' h => sb_cell0 (L := La) (h.trans YD.out)
    have XX : Hid (Below N wB wB.drew) := (Below.refl _ _).drew
    refine wp_region_held_drew (S := (fun w' : World => ∀ q, q < N → w'.heap[q]? = wB.heap[q]?)) (by kernel_rfl) (by exact fun _ _ => rfl) (fun hHeld => ?_)
    refine wpAnyH_take (i := 0) (v := ?_) rfl (by kernel_rfl) (by kernel_rfl) (by kernel_rfl) (fun _ _ _ h => h) (Or.inl ⟨by rfl, ?_⟩) (by assumption) ?_
    rotate_left
    · (intro w hSw; (try dsimp only at hSw); go_simp; try with_reducible rfl)
    simp only [Act.put, List.getElem_toArray, List.getElem_cons_zero, List.setIfInBounds_toArray, List.set_cons_zero, List.set_cons_succ]
    refine wpAnyH_take (i := 2) rfl (by kernel_rfl) (by kernel_rfl) (by kernel_rfl) (fun _ _ _ h => h) (yieldsIf_load_mid (by rfl) 23 (.tmp 6) rfl (M) (0) rfl (bvals xm) _ (fun w h => ba_range (t := 23) ((h _ (by have := LN.out; omega)).trans YM.out)) Tryd.underlying23 rfl him) (by assumption) ?_
    simp only [Act.put, List.getElem_toArray, List.getElem_cons_succ, List.getElem_cons_zero, List.setIfInBounds_toArray, List.set_cons_zero, List.set_cons_succ]
    refine wpAnyH_take (i := 3) rfl (by kernel_rfl) (by kernel_rfl) (by kernel_rfl) (fun _ _ _ h => h) (yieldsIf_load_mid (by rfl) 30 (.tmp 11) rfl (C) (0) rfl (sg (i) Lc) _ (fun w h => sb_all (L := Lc) ((h _ (by have := LN.out; omega)).trans YC.out)) Tryd.underlying30 rfl (sg_info _ _ LLc.out)) (by assumption) ?_
    simp only [Act.put, List.getElem_toArray, List.getElem_cons_succ, List.getElem_cons_zero, List.setIfInBounds_toArray, List.set_cons_zero, List.set_cons_succ]
    refine wpAnyH_take (i := 5) (v := ?_) rfl (by kernel_rfl) (by kernel_rfl) (by kernel_rfl) (fun _ _ _ h => h) (Or.inl ⟨by rfl, ?_⟩) (by assumption) ?_
    rotate_left
    · (intro w hSw; (try dsimp only at hSw); go_simp; try with_reducible rfl)
    simp only [Act.put, List.getElem_toArray, List.getElem_cons_succ, List.getElem_cons_zero, List.setIfInBounds_toArray, List.set_cons_zero, List.set_cons_succ]
    refine wpAnyH_take (i := 7) rfl (by kernel_rfl) (by kernel_rfl) (by kernel_rfl) (fun _ _ _ h => h) (yieldsIf_load_mid (by rfl) 23 (.tmp 6) rfl (M) (0) rfl (bvals xm) _ (fun w h => ba_range (t := 23) ((h _ (by have := LN.out; omega)).trans YM.out)) Tryd.underlying23 rfl him) (by assumption) ?_
    simp only [Act.put, List.getElem_toArray, List.getElem_cons_succ, List.getElem_cons_zero, List.setIfInBounds_toArray, List.set_cons_zero, List.set_cons_succ]
    refine wpAnyH_take (i := 8) rfl (by kernel_rfl) (by kernel_rfl) (by kernel_rfl) (fun _ _ _ h => h) (yieldsIf_load_mid (by rfl) 30 (.tmp 11) rfl (C) (0) rfl (sg (i) Lc) _ (fun w h => sb_all (L := Lc) ((h _ (by have := LN.out; omega)).trans YC.out)) Tryd.underlying30 rfl (sg_info _ _ LLc.out)) (by assumption) ?_
    simp only [Act.put, List.getElem_toArray, List.getElem_cons_succ, List.getElem_cons_zero, List.setIfInBounds_toArray, List.set_cons_zero, List.set_cons_succ]
    refine wpAnyH_ready (rs := [1]) (by kernel_rfl) (by simp) ?_
    refine AllReadyH.cons rfl (fun K hK => ?_) AllReadyH.nil
    go_simp
    go_at_call 11
    refine (C11.out _ (KN.out _ XX.out) (TN.out _ XX.out)).mono ?_
    rintro e wc1 ⟨rfl, hba⟩
    have XN : Hid (Below N wB wc1) := XX.out.trans (hba.mono (by have := XX.out.size; have := WN.out; omega))
    clear XX hba hHeld
    have XX := XN
    clear XN
    (try go_wp2_with fail)
    refine hK.out _ _ (by exact fun q hq => XX.out.block q hq) (fun hHeld => ?_)
    clear hK K
    refine wpAnyH_ready (rs := [4]) (by kernel_rfl) (by simp) ?_
    refine AllReadyH.cons rfl (fun K hK => ?_) AllReadyH.nil
    go_simp
    go_at_call 13
    refine (C13c.out _ (KN.out _ XX.out)).mono ?_
    rintro e wc2 ⟨rfl, hba⟩
    have XN : Hid (Below N wB wc2) := XX.out.trans (hba.mono (by have := XX.out.size; have := WN.out; omega))
    clear XX hba hHeld
    have XX := XN
    clear XN
    (try go_wp2_with fail)
    refine hK.out _ _ (by exact fun q hq => XX.out.block q hq) (fun hHeld => ?_)
    clear hK K
    refine wpAnyH_ready (rs := [6]) (by kernel_rfl) (by simp) ?_
    refine AllReadyH.cons rfl (fun K hK => ?_) AllReadyH.nil
    go_simp
    go_at_call 11
    refine (C11.out _ (KN.out _ XX.out) (TN.out _ XX.out)).mono ?_
    rintro e wc3 ⟨rfl, hba⟩
    have XN : Hid (Below N wB wc3) := XX.out.trans (hba.mono (by have := XX.out.size; have := WN.out; omega))
    clear XX hba hHeld
    have XX := XN
    clear XN
    (try go_wp2_with fail)
    refine hK.out _ _ (by exact fun q hq => XX.out.block q hq) (fun hHeld => ?_)
    clear hK K
    refine wpAnyH_ready (rs := [9]) (by kernel_rfl) (by simp) ?_
    refine AllReadyH.cons rfl (fun K hK => ?_) AllReadyH.nil
    go_simp
    go_at_call 14
    refine (C14c.out _ (KN.out _ XX.out)).mono ?_
    rintro e wc4 ⟨rfl, hba⟩
    have XN : Hid (Below N wB wc4) := XX.out.trans (hba.mono (by have := XX.out.size; have := WN.out; omega))
    clear XX hba hHeld
    have XX := XN
    clear XN
    (try go_wp2_with fail)
    refine hK.out _ _ (by exact fun q hq => XX.out.block q hq) (fun hHeld => ?_)
    clear hK K
    refine wpAnyH_take (i := 10) (v := ?_) rfl (by kernel_rfl) (by kernel_rfl) (by kernel_rfl) (fun _ _ _ h => h) (Or.inl ⟨by rfl, ?_⟩) (by assumption) ?_
    rotate_left
    · (intro w hSw; (try dsimp only at hSw); go_simp; try with_reducible rfl)
    simp only [Act.put, List.getElem_toArray, List.getElem_cons_succ, List.getElem_cons_zero, List.setIfInBounds_toArray, List.set_cons_zero, List.set_cons_succ]
    refine wpAnyH_take (i := 11) (v := ?_) rfl (by kernel_rfl) (by kernel_rfl) (by kernel_rfl) (fun _ _ _ h => h) (Or.inl ⟨by rfl, ?_⟩) (by assumption) ?_
    rotate_left
    · (intro w hSw; (try dsimp only at hSw); go_simp; try with_reducible rfl)
    simp only [Act.put, List.getElem_toArray, List.getElem_cons_succ, List.getElem_cons_zero, List.setIfInBounds_toArray, List.set_cons_zero, List.set_cons_succ]
    refine wpAnyH_take (i := 12) (v := ?_) rfl (by kernel_rfl) (by kernel_rfl) (by kernel_rfl) (fun _ _ _ h => h) (Or.inl ⟨by rfl, ?_⟩) (by assumption) ?_
    rotate_left
    · (intro w hSw; (try dsimp only at hSw); go_simp; try with_reducible rfl)
    simp only [Act.put, List.getElem_toArray, List.getElem_cons_succ, List.getElem_cons_zero, List.setIfInBounds_toArray, List.set_cons_zero, List.set_cons_succ]
    refine wpAnyH_take (i := 14) rfl (by kernel_rfl) (by kernel_rfl) (by kernel_rfl) (fun _ _ _ h => h) (yieldsIf_load_mid (by rfl) 23 (.tmp 6) rfl (M) (0) rfl (bvals xm) _ (fun w h => ba_range (t := 23) ((h _ (by have := LN.out; omega)).trans YM.out)) Tryd.underlying23 rfl him) (by assumption) ?_
    simp only [Act.put, List.getElem_toArray, List.getElem_cons_succ, List.getElem_cons_zero, List.setIfInBounds_toArray, List.set_cons_zero, List.set_cons_succ]
    refine wpAnyH_take (i := 15) rfl (by kernel_rfl) (by kernel_rfl) (by kernel_rfl) (fun _ _ _ h => h) (yieldsIf_load_mid (by rfl) 30 (.tmp 12) rfl (E) (0) rfl (sg (i) La) _ (fun w h => sb_all (L := La) ((h _ (by have := LN.out; omega)).trans YE.out)) Tryd.underlying30 rfl (sg_info _ _ LLa.out)) (by assumption) ?_
    simp only [Act.put, List.getElem_toArray, List.getElem_cons_succ, List.getElem_cons_zero, List.setIfInBounds_toArray, List.set_cons_zero, List.set_cons_succ]
    refine wpAnyH_take (i := 17) (v := ?_) rfl (by kernel_rfl) (by kernel_rfl) (by kernel_rfl) (fun _ _ _ h => h) (Or.inl ⟨by rfl, ?_⟩) (by assumption) ?_
    rotate_left
    · (intro w hSw; (try dsimp only at hSw); go_simp; try with_reducible rfl)
    simp only [Act.put, List.getElem_toArray, List.getElem_cons_succ, List.getElem_cons_zero, List.setIfInBounds_toArray, List.set_cons_zero, List.set_cons_succ]
    refine wpAnyH_take (i := 19) rfl (by kernel_rfl) (by kernel_rfl) (by kernel_rfl) (fun _ _ _ h => h) (yieldsIf_load_mid (by rfl) 23 (.tmp 6) rfl (M) (0) rfl (bvals xm) _ (fun w h => ba_range (t := 23) ((h _ (by have := LN.out; omega)).trans YM.out)) Tryd.underlying23 rfl him) (by assumption) ?_
    simp only [Act.put, List.getElem_toArray, List.getElem_cons_succ, List.getElem_cons_zero, List.setIfInBounds_toArray, List.set_cons_zero, List.set_cons_succ]
    refine wpAnyH_take (i := 20) rfl (by kernel_rfl) (by kernel_rfl) (by kernel_rfl) (fun _ _ _ h => h) (yieldsIf_load_mid (by rfl) 30 (.tmp 12) rfl (E) (0) rfl (sg (i) La) _ (fun w h => sb_all (L := La) ((h _ (by have := LN.out; omega)).trans YE.out)) Tryd.underlying30 rfl (sg_info _ _ LLa.out)) (by assumption) ?_
    simp only [Act.put, List.getElem_toArray, List.getElem_cons_succ, List.getElem_cons_zero, List.setIfInBounds_toArray, List.set_cons_zero, List.set_cons_succ]
    refine wpAnyH_ready (rs := [13]) (by kernel_rfl) (by simp) ?_
    refine AllReadyH.cons rfl (fun K hK => ?_) AllReadyH.nil
    go_simp
    go_at_call 11
    refine (C11.out _ (KN.out _ XX.out) (TN.out _ XX.out)).mono ?_
    rintro e wc5 ⟨rfl, hba⟩
    have XN : Hid (Below N wB wc5) := XX.out.trans (hba.mono (by have := XX.out.size; have := WN.out; omega))
    clear XX hba hHeld
    have XX := XN
    clear XN
    (try go_wp2_with fail)
    refine hK.out _ _ (by exact fun q hq => XX.out.block q hq) (fun hHeld => ?_)
    clear hK K
    refine wpAnyH_ready (rs := [16]) (by kernel_rfl) (by simp) ?_
    refine AllReadyH.cons rfl (fun K hK => ?_) AllReadyH.nil
    go_simp
    go_at_call 13
    refine (C13e.out _ (KN.out _ XX.out)).mono ?_
    rintro e wc6 ⟨rfl, hba⟩
    have XN : Hid (Below N wB wc6) := XX.out.trans (hba.mono (by have := XX.out.size; have := WN.out; omega))
    clear XX hba hHeld
    have XX := XN
    clear XN
    (try go_wp2_with fail)
    refine hK.out _ _ (by exact fun q hq => XX.out.block q hq) (fun hHeld => ?_)
    clear hK K
    refine wpAnyH_ready (rs := [18]) (by kernel_rfl) (by simp) ?_
    refine AllReadyH.cons rfl (fun K hK => ?_) AllReadyH.nil
    go_simp
    go_at_call 11
    refine (C11.out _ (KN.out _ XX.out) (TN.out _ XX.out)).mono ?_
    rintro e wc7 ⟨rfl, hba⟩
    have XN : Hid (Below N wB wc7) := XX.out.trans (hba.mono (by have := XX.out.size; have := WN.out; omega))
    clear XX hba hHeld
    have XX := XN
    clear XN
    (try go_wp2_with fail)
    refine hK.out _ _ (by exact fun q hq => XX.out.block q hq) (fun hHeld => ?_)
    clear hK K
    refine wpAnyH_ready (rs := [21]) (by kernel_rfl) (by simp) ?_
    refine AllReadyH.cons rfl (fun K hK => ?_) AllReadyH.nil
    go_simp
    go_at_call 14
    refine (C14e.out _ (KN.out _ XX.out)).mono ?_
    rintro e wc8 ⟨rfl, hba⟩
    have XN : Hid (Below N wB wc8) := XX.out.trans (hba.mono (by have := XX.out.size; have := WN.out; omega))
    clear XX hba hHeld
    have XX := XN
    clear XN
    (try go_wp2_with fail)
    refine hK.out _ _ (by exact fun q hq => XX.out.block q hq) (fun hHeld => ?_)
    clear hK K
    refine wpAnyH_take (i := 22) (v := ?_) rfl (by kernel_rfl) (by kernel_rfl) (by kernel_rfl) (fun _ _ _ h => h) (Or.inl ⟨by rfl, ?_⟩) (by assumption) ?_
    rotate_left
    · (intro w hSw; (try dsimp only at hSw); go_simp; try with_reducible rfl)
    simp only [Act.put, List.getElem_toArray, List.getElem_cons_succ, List.getElem_cons_zero, List.setIfInBounds_toArray, List.set_cons_zero, List.set_cons_succ]
    refine wpAnyH_take (i := 23) (v := ?_) rfl (by kernel_rfl) (by kernel_rfl) (by kernel_rfl) (fun _ _ _ h => h) (Or.inl ⟨by rfl, ?_⟩) (by assumption) ?_
    rotate_left
    · (intro w hSw; (try dsimp only at hSw); go_simp; try with_reducible rfl)
    simp only [Act.put, List.getElem_toArray, List.getElem_cons_succ, List.getElem_cons_zero, List.setIfInBounds_toArray, List.set_cons_zero, List.set_cons_succ]
    refine wpAnyH_take (i := 24) (v := ?_) rfl (by kernel_rfl) (by kernel_rfl) (by kernel_rfl) (fun _ _ _ h => h) (Or.inl ⟨by rfl, ?_⟩) (by assumption) ?_
    rotate_left
    · (intro w hSw; (try dsimp only at hSw); go_simp; try with_reducible rfl)
    simp only [Act.put, List.getElem_toArray, List.getElem_cons_succ, List.getElem_cons_zero, List.setIfInBounds_toArray, List.set_cons_zero, List.set_cons_succ]
    refine wpAnyH_take (i := 25) (v := ?_) rfl (by kernel_rfl) (by kernel_rfl) (by kernel_rfl) (fun _ _ _ h => h) (Or.inl ⟨by rfl, ?_⟩) (by assumption) ?_
    rotate_left
    · (intro w hSw; (try dsimp only at hSw); go_simp; try with_reducible rfl)
    simp only [Act.put, List.getElem_toArray, List.getElem_cons_succ, List.getElem_cons_zero, List.setIfInBounds_toArray, List.set_cons_zero, List.set_cons_succ]
    refine wpAnyH_take (i := 26) (v := ?_) rfl (by kernel_rfl) (by kernel_rfl) (by kernel_rfl) (fun _ _ _ h => h) (Or.inl ⟨by rfl, ?_⟩) (by assumption) ?_
    rotate_left
    · (intro w hSw; (try dsimp only at hSw); have c0 := IA.out w (hSw _ (by have := LN.out; omega)); go_simp; try with_reducible rfl)
    simp only [Act.put, List.getElem_toArray, List.getElem_cons_succ, List.getElem_cons_zero, List.setIfInBounds_toArray, List.set_cons_zero, List.set_cons_succ]
    refine wpAnyH_take (i := 27) (v := ?_) rfl (by kernel_rfl) (by kernel_rfl) (by kernel_rfl) (fun _ _ _ h => h) (Or.inl ⟨by rfl, ?_⟩) (by assumption) ?_
    rotate_left
    · (intro w hSw; (try dsimp only at hSw); go_simp; try with_reducible rfl)
    simp only [Act.put, List.getElem_toArray, List.getElem_cons_succ, List.getElem_cons_zero, List.setIfInBounds_toArray, List.set_cons_zero, List.set_cons_succ]
    refine wpAnyH_take (i := 28) (v := ?_) rfl (by kernel_rfl) (by kernel_rfl) (by kernel_rfl) (fun _ _ _ h => h) (Or.inl ⟨by rfl, ?_⟩) (by assumption) ?_
    rotate_left
    · (intro w hSw; (try dsimp only at hSw); have c0 := ID.out w (hSw _ (by have := LN.out; omega)); go_simp; try with_reducible rfl)
    simp only [Act.put, List.getElem_toArray, List.getElem_cons_succ, List.getElem_cons_zero, List.setIfInBounds_toArray, List.set_cons_zero, List.set_cons_succ]
    refine wpAnyH_take (i := 29) (v := ?_) rfl (by kernel_rfl) (by kernel_rfl) (by kernel_rfl) (fun _ _ _ h => h) (Or.inl ⟨by rfl, ?_⟩) (by assumption) ?_
    rotate_left
    · (intro w hSw; (try dsimp only at hSw); go_simp; try with_reducible rfl)
    simp only [Act.put, List.getElem_toArray, List.getElem_cons_succ, List.getElem_cons_zero, List.setIfInBounds_toArray, List.set_cons_zero, List.set_cons_succ]
    refine wpAnyH_take (i := 30) (v := ?_) rfl (by kernel_rfl) (by kernel_rfl) (by kernel_rfl) (fun _ _ _ h => h) (Or.inl ⟨by rfl, ?_⟩) (by assumption) ?_
    rotate_left
    · (intro w hSw; (try dsimp only at hSw); go_simp; try with_reducible rfl)
    simp only [Act.put, List.getElem_toArray, List.getElem_cons_succ, List.getElem_cons_zero, List.setIfInBounds_toArray, List.set_cons_zero, List.set_cons_succ]
    refine wpAnyH_take (i := 31) rfl (by kernel_rfl) (by kernel_rfl) (by kernel_rfl) (fun _ _ _ h => h) (yieldsIf_load_mid (by rfl) 30 (.tmp 7) rfl (A) (0) rfl (sg (i) La) _ (fun w h => sb_all (L := La) ((h _ (by have := LN.out; omega)).trans YA.out)) Tryd.underlying30 rfl (sg_info _ _ LLa.out)) (by assumption) ?_
    simp only [Act.put, List.getElem_toArray, List.getElem_cons_succ, List.getElem_cons_zero, List.setIfInBounds_toArray, List.set_cons_zero, List.set_cons_succ]
    refine wpAnyH_take (i := 32) rfl (by kernel_rfl) (by kernel_rfl) (by kernel_rfl) (fun _ _ _ h => h) (yieldsIf_load_mid (by rfl) 30 (.tmp 9) rfl (D) (0) rfl (sg (i) La) _ (fun w h => sb_all (L := La) ((h _ (by have := LN.out; omega)).trans YD.out)) Tryd.underlying30 rfl (sg_info _ _ LLa.out)) (by assumption) ?_
    simp only [Act.put, List.getElem_toArray, List.getElem_cons_succ, List.getElem_cons_zero, List.setIfInBounds_toArray, List.set_cons_zero, List.set_cons_succ]
    refine wpAnyH_take (i := 33) (v := ?_) rfl (by kernel_rfl) (by kernel_rfl) (by kernel_rfl) (fun _ _ _ h => h) (Or.inl ⟨by rfl, ?_⟩) (by assumption) ?_
    rotate_left
    · (intro w hSw; (try dsimp only at hSw); go_simp; try with_reducible rfl)
    simp only [Act.put, List.getElem_toArray, List.getElem_cons_succ, List.getElem_cons_zero, List.setIfInBounds_toArray, List.set_cons_zero, List.set_cons_succ]
    refine wpAnyH_take (i := 34) (v := ?_) rfl (by kernel_rfl) (by kernel_rfl) (by kernel_rfl) (fun _ _ _ h => h) (Or.inl ⟨by rfl, ?_⟩) (by assumption) ?_
    rotate_left
    · (intro w hSw; (try dsimp only at hSw); go_simp; try with_reducible rfl)
    simp only [Act.put, List.getElem_toArray, List.getElem_cons_succ, List.getElem_cons_zero, List.setIfInBounds_toArray, List.set_cons_zero, List.set_cons_succ]
    refine wpAnyH_take (i := 35) (v := ?_) rfl (by kernel_rfl) (by kernel_rfl) (by kernel_rfl) (fun _ _ _ h => h) (Or.inl ⟨by rfl, ?_⟩) (by assumption) ?_
    rotate_left
    · (intro w hSw; (try dsimp only at hSw); go_simp; try with_reducible rfl)
    simp only [Act.put, List.getElem_toArray, List.getElem_cons_succ, List.getElem_cons_zero, List.setIfInBounds_toArray, List.set_cons_zero, List.set_cons_succ]
    refine wpAnyH_take (i := 36) (v := ?_) rfl (by kernel_rfl) (by kernel_rfl) (by kernel_rfl) (fun _ _ _ h => h) (Or.inl ⟨by rfl, ?_⟩) (by assumption) ?_
    rotate_left
    · (intro w hSw; (try dsimp only at hSw); go_simp; try with_reducible rfl)
    simp only [Act.put, List.getElem_toArray, List.getElem_cons_succ, List.getElem_cons_zero, List.setIfInBounds_toArray, List.set_cons_zero, List.set_cons_succ]
    refine wpAnyH_done (by kernel_rfl) ?_ _
    go_wp2
    go_ret
    exact ⟨rfl, by rw [HS.out]; exact KN.out _ XX.out⟩
  · have e1 : ((i : Int) == (k : Int)) = false := by simp; omega
    have e2 : ((i : Int) != (k : Int)) = true := by simp; omega
    have e3 : (i == k) = false := by simp; omega
    have e4 : (i != k) = true := by simp; omega
    have e5 : decide (i = k) = false := decide_eq_false hik
    have IA : Hid (∀ w' : World, w'.heap[A]? = wB.heap[A]? → w'.cell? ⟨A, 0, none⟩ = some (.int .i64 i)) := fun w' h => sb_cell0 (L := La) (h.trans YA.out)
    have ID : Hid (∀ w' : World, w'.heap[D]? = wB.heap[D]? → w'.cell? ⟨D, 0, none⟩ = some (.int .i64 k)) := fun w' h => sb_cell0 (L := Lb) (h.trans YD.out)
    have XX : Hid (Below N wB wB.drew) := (Below.refl _ _).drew
    refine wp_region_held_drew (S := (fun w' : World => ∀ q, q < N → w'.heap[q]? = wB.heap[q]?)) (by kernel_rfl) (by exact fun _ _ => rfl) (fun hHeld => ?_)
    refine wpAnyH_take (i := 0) (v := ?_) rfl (by kernel_rfl) (by kernel_rfl) (by kernel_rfl) (fun _ _ _ h => h) (Or.inl ⟨by rfl, ?_⟩) (by assumption) ?_
    rotate_left
    · (intro w hSw; (try dsimp only at hSw); go_simp; try with_reducible rfl)
    simp only [Act.put, List.getElem_toArray, List.getElem_cons_zero, List.setIfInBounds_toArray, List.set_cons_zero, List.set_cons_succ]
    refine wpAnyH_take (i := 2) rfl (by kernel_rfl) (by kernel_rfl) (by kernel_rfl) (fun _ _ _ h => h) (yieldsIf_load_mid (by rfl) 23 (.tmp 6) rfl (M) (0) rfl (bvals xm) _ (fun w h => ba_range (t := 23) ((h _ (by have := LN.out; omega)).trans YM.out)) Tryd.underlying23 rfl him) (by assumption) ?_
    simp only [Act.put, List.getElem_toArray, List.getElem_cons_succ, List.getElem_cons_zero, List.setIfInBounds_toArray, List.set_cons_zero, List.set_cons_succ]
    refine wpAnyH_take (i := 3) rfl (by kernel_rfl) (by kernel_rfl) (by kernel_rfl) (fun _ _ _ h => h) (yieldsIf_load_mid (by rfl) 30 (.tmp 11) rfl (C) (0) rfl (sg (i) Lc) _ (fun w h => sb_all (L := Lc) ((h _ (by have := LN.out; omega)).trans YC.out)) Tryd.underlying30 rfl (sg_info _ _ LLc.out)) (by assumption) ?_
    simp only [Act.put, List.getElem_toArray, List.getElem_cons_succ, List.getElem_cons_zero, List.setIfInBounds_toArray, List.set_cons_zero, List.set_cons_succ]
    refine wpAnyH_take (i := 5) (v := ?_) rfl (by kernel_rfl) (by kernel_rfl) (by kernel_rfl) (fun _ _ _ h => h) (Or.inl ⟨by rfl, ?_⟩) (by assumption) ?_
    rotate_left
    · (intro w hSw; (try dsimp only at hSw); go_simp; try with_reducible rfl)
    simp only [Act.put, List.getElem_toArray, List.getElem_cons_succ, List.getElem_cons_zero, List.setIfInBounds_toArray, List.set_cons_zero, List.set_cons_succ]
    refine wpAnyH_take (i := 7) rfl (by kernel_rfl) (by kernel_rfl) (by kernel_rfl) (fun _ _ _ h => h) (yieldsIf_load_mid (by rfl) 23 (.tmp 6) rfl (M) (0) rfl (bvals xm) _ (fun w h => ba_range (t := 23) ((h _ (by have := LN.out; omega)).trans YM.out)) Tryd.underlying23 rfl him) (by assumption) ?_
    simp only [Act.put, List.getElem_toArray, List.getElem_cons_succ, List.getElem_cons_zero, List.setIfInBounds_toArray, List.set_cons_zero, List.set_cons_succ]
    refine wpAnyH_take (i := 8) rfl (by kernel_rfl) (by kernel_rfl) (by kernel_rfl) (fun _ _ _ h => h) (yieldsIf_load_mid (by rfl) 30 (.tmp 11) rfl (C) (0) rfl (sg (i) Lc) _ (fun w h => sb_all (L := Lc) ((h _ (by have := LN.out; omega)).trans YC.out)) Tryd.underlying30 rfl (sg_info _ _ LLc.out)) (by assumption) ?_
    simp only [Act.put, List.getElem_toArray, List.getElem_cons_succ, List.getElem_cons_zero, List.setIfInBounds_toArray, List.set_cons_zero, List.set_cons_succ]
    refine wpAnyH_ready (rs := [1]) (by kernel_rfl) (by simp) ?_
    refine AllReadyH.cons rfl (fun K hK => ?_) AllReadyH.nil
    go_simp
    go_at_call 11
    refine (C11.out _ (KN.out _ XX.out) (TN.out _ XX.out)).mono ?_
    rintro e wc1 ⟨rfl, hba⟩
    have XN : Hid (Below N wB wc1) := XX.out.trans (hba.mono (by have := XX.out.size; have := WN.out; omega))
    clear XX hba hHeld
    have XX := XN
    clear XN
    (try go_wp2_with fail)
    refine hK.out _ _ (by exact fun q hq => XX.out.block q hq) (fun hHeld => ?_)
    clear hK K
    refine wpAnyH_ready (rs := [4]) (by kernel_rfl) (by simp) ?_
    refine AllReadyH.cons rfl (fun K hK => ?_) AllReadyH.nil
    go_simp
    go_at_call 13
    refine (C13c.out _ (KN.out _ XX.out)).mono ?_
    rintro e wc2 ⟨rfl, hba⟩
    have XN : Hid (Below N wB wc2) := XX.out.trans (hba.mono (by have := XX.out.size; have := WN.out; omega))
    clear XX hba hHeld
    have XX := XN
    clear XN
    (try go_wp2_with fail)
    refine hK.out _ _ (by exact fun q hq => XX.out.block q hq) (fun hHeld => ?_)
    clear hK K
    refine wpAnyH_ready (rs := [6]) (by kernel_rfl) (by simp) ?_
    refine AllReadyH.cons rfl (fun K hK => ?_) AllReadyH.nil
    go_simp
    go_at_call 11
    refine (C11.out _ (KN.out _ XX.out) (TN.out _ XX.out)).mono ?_
    rintro e wc3 ⟨rfl, hba⟩
    have XN : Hid (Below N wB wc3) := XX.out.trans (hba.mono (by have := XX.out.size; have := WN.out; omega))
    clear XX hba hHeld
    have XX := XN
    clear XN
    (try go_wp2_with fail)
    refine hK.out _ _ (by exact fun q hq => XX.out.block q hq) (fun hHeld => ?_)
    clear hK K
    refine wpAnyH_ready (rs := [9]) (by kernel_rfl) (by simp) ?_
    refine AllReadyH.cons rfl (fun K hK => ?_) AllReadyH.nil
    go_simp
    go_at_call 14
    refine (C14c.out _ (KN.out _ XX.out)).mono ?_
    rintro e wc4 ⟨rfl, hba⟩
    have XN : Hid (Below N wB wc4) := XX.out.trans (hba.mono (by have := XX.out.size; have := WN.out; omega))
    clear XX hba hHeld
    have XX := XN
    clear XN
    (try go_wp2_with fail)
    refine hK.out _ _ (by exact fun q hq => XX.out.block q hq) (fun hHeld => ?_)
    clear hK K
    refine wpAnyH_take (i := 10) (v := ?_) rfl (by kernel_rfl) (by kernel_rfl) (by kernel_rfl) (fun _ _ _ h => h) (Or.inl ⟨by rfl, ?_⟩) (by assumption) ?_
    rotate_left
    · (intro w hSw; (try dsimp only at hSw); go_simp; try with_reducible rfl)
    simp only [Act.put, List.getElem_toArray, List.getElem_cons_succ, List.getElem_cons_zero, List.setIfInBounds_toArray, List.set_cons_zero, List.set_cons_succ]
    refine wpAnyH_take (i := 11) (v := ?_) rfl (by kernel_rfl) (by kernel_rfl) (by kernel_rfl) (fun _ _ _ h => h) (Or.inl ⟨by rfl, ?_⟩) (by assumption) ?_
    rotate_left
    · (intro w hSw; (try dsimp only at hSw); go_simp; try with_reducible rfl)
    simp only [Act.put, List.getElem_toArray, List.getElem_cons_succ, List.getElem_cons_zero, List.setIfInBounds_toArray, List.set_cons_zero, List.set_cons_succ]
    refine wpAnyH_take (i := 12) (v := ?_) rfl (by kernel_rfl) (by kernel_rfl) (by kernel_rfl) (fun _ _ _ h => h) (Or.inl ⟨by rfl, ?_⟩) (by assumption) ?_
    rotate_left
    · (intro w hSw; (try dsimp only at hSw); go_simp; try with_reducible rfl)
    simp only [Act.put, List.getElem_toArray, List.getElem_cons_succ, List.getElem_cons_zero, List.setIfInBounds_toArray, List.set_cons_zero, List.set_cons_succ]
    refine wpAnyH_take (i := 14) rfl (by kernel_rfl) (by kernel_rfl) (by kernel_rfl) (fun _ _ _ h => h) (yieldsIf_load_mid (by rfl) 23 (.tmp 6) rfl (M) (0) rfl (bvals xm) _ (fun w h => ba_range (t := 23) ((h _ (by have := LN.out; omega)).trans YM.out)) Tryd.underlying23 rfl him) (by assumption) ?_
    simp only [Act.put, List.getElem_toArray, List.getElem_cons_succ, List.getElem_cons_zero, List.setIfInBounds_toArray, List.set_cons_zero, List.set_cons_succ]
    refine wpAnyH_take (i := 15) rfl (by kernel_rfl) (by kernel_rfl) (by kernel_rfl) (fun _ _ _ h => h) (yieldsIf_load_mid (by rfl) 30 (.tmp 12) rfl (E) (0) rfl (sg (k) La) _ (fun w h => sb_all (L := La) ((h _ (by have := LN.out; omega)).trans YE.out)) Tryd.underlying30 rfl (sg_info _ _ LLa.out)) (by assumption) ?_
    simp only [Act.put, List.getElem_toArray, List.getElem_cons_succ, List.getElem_cons_zero, List.setIfInBounds_toArray, List.set_cons_zero, List.set_cons_succ]
    refine wpAnyH_take (i := 17) (v := ?_) rfl (by kernel_rfl) (by kernel_rfl) (by kernel_rfl) (fun _ _ _ h => h) (Or.inl ⟨by rfl, ?_⟩) (by assumption) ?_
    rotate_left
    · (intro w hSw; (try dsimp only at hSw); go_simp; try with_reducible rfl)
    simp only [Act.put, List.getElem_toArray, List.getElem_cons_succ, List.getElem_cons_zero, List.setIfInBounds_toArray, List.set_cons_zero, List.set_cons_succ]
    refine wpAnyH_take (i := 19) rfl (by kernel_rfl) (by kernel_rfl) (by kernel_rfl) (fun _ _ _ h => h) (yieldsIf_load_mid (by rfl) 23 (.tmp 6) rfl (M) (0) rfl (bvals xm) _ (fun w h => ba_range (t := 23) ((h _ (by have := LN.out; omega)).trans YM.out)) Tryd.underlying23 rfl him) (by assumption) ?_
    simp only [Act.put, List.getElem_toArray, List.getElem_cons_succ, List.getElem_cons_zero, List.setIfInBounds_toArray, List.set_cons_zero, List.set_cons_succ]
    refine wpAnyH_take (i := 20) rfl (by kernel_rfl) (by kernel_rfl) (by kernel_rfl) (fun _ _ _ h => h) (yieldsIf_load_mid (by rfl) 30 (.tmp 12) rfl (E) (0) rfl (sg (k) La) _ (fun w h => sb_all (L := La) ((h _ (by have := LN.out; omega)).trans YE.out)) Tryd.underlying30 rfl (sg_info _ _ LLa.out)) (by assumption) ?_
    simp only [Act.put, List.getElem_toArray, List.getElem_cons_succ, List.getElem_cons_zero, List.setIfInBounds_toArray, List.set_cons_zero, List.set_cons_succ]
    refine wpAnyH_ready (rs := [13]) (by kernel_rfl) (by simp) ?_
    refine AllReadyH.cons rfl (fun K hK => ?_) AllReadyH.nil
    go_simp
    go_at_call 11
    refine (C11.out _ (KN.out _ XX.out) (TN.out _ XX.out)).mono ?_
    rintro e wc5 ⟨rfl, hba⟩
    have XN : Hid (Below N wB wc5) := XX.out.trans (hba.mono (by have := XX.out.size; have := WN.out; omega))
    clear XX hba hHeld
    have XX := XN
    clear XN
    (try go_wp2_with fail)
    refine hK.out _ _ (by exact fun q hq => XX.out.block q hq) (fun hHeld => ?_)
    clear hK K
    refine wpAnyH_ready (rs := [16]) (by kernel_rfl) (by simp) ?_
    refine AllReadyH.cons rfl (fun K hK => ?_) AllReadyH.nil
    go_simp
    go_at_call 13
    refine (C13e.out _ (KN.out _ XX.out)).mono ?_
    rintro e wc6 ⟨rfl, hba⟩
    have XN : Hid (Below N wB wc6) := XX.out.trans (hba.mono (by have := XX.out.size; have := WN.out; omega))
    clear XX hba hHeld
    have XX := XN
    clear XN
    (try go_wp2_with fail)
    refine hK.out _ _ (by exact fun q hq => XX.out.block q hq) (fun hHeld => ?_)
    clear hK K
    refine wpAnyH_ready (rs := [18]) (by kernel_rfl) (by simp) ?_
    refine AllReadyH.cons rfl (fun K hK => ?_) AllReadyH.nil
    go_simp
    go_at_call 11
    refine (C11.out _ (KN.out _ XX.out) (TN.out _ XX.out)).mono ?_
    rintro e wc7 ⟨rfl, hba⟩
    have XN : Hid (Below N wB wc7) := XX.out.trans (hba.mono (by have := XX.out.size; have := WN.out; omega))
    clear XX hba hHeld
    have XX := XN
    clear XN
    (try go_wp2_with fail)
    refine hK.out _ _ (by exact fun q hq => XX.out.block q hq) (fun hHeld => ?_)
    clear hK K
    refine wpAnyH_ready (rs := [21]) (by kernel_rfl) (by simp) ?_
    refine AllReadyH.cons rfl (fun K hK => ?_) AllReadyH.nil
    go_simp
    go_at_call 14
    refine (C14e.out _ (KN.out _ XX.out)).mono ?_
    rintro e wc8 ⟨rfl, hba⟩
    have XN : Hid (Below N wB wc8) := XX.out.trans (hba.mono (by have := XX.out.size; have := WN.out; omega))
    clear XX hba hHeld
    have XX := XN
    clear XN
    (try go_wp2_with fail)
    refine hK.out _ _ (by exact fun q hq => XX.out.block q hq) (fun hHeld => ?_)
    clear hK K
    refine wpAnyH_take (i := 22) (v := ?_) rfl (by kernel_rfl) (by kernel_rfl) (by kernel_rfl) (fun _ _ _ h => h) (Or.inl ⟨by rfl, ?_⟩) (by assumption) ?_
    rotate_left
    · (intro w hSw; (try dsimp only at hSw); go_simp; try with_reducible rfl)
    simp only [Act.put, List.getElem_toArray, List.getElem_cons_succ, List.getElem_cons_zero, List.setIfInBounds_toArray, List.set_cons_zero, List.set_cons_succ]
    refine wpAnyH_take (i := 23) (v := ?_) rfl (by kernel_rfl) (by kernel_rfl) (by kernel_rfl) (fun _ _ _ h => h) (Or.inl ⟨by rfl, ?_⟩) (by assumption) ?_
    rotate_left
    · (intro w hSw; (try dsimp only at hSw); go_simp; try with_reducible rfl)
    simp only [Act.put, List.getElem_toArray, List.getElem_cons_succ, List.getElem_cons_zero, List.setIfInBounds_toArray, List.set_cons_zero, List.set_cons_succ]
    refine wpAnyH_take (i := 24) (v := ?_) rfl (by kernel_rfl) (by kernel_rfl) (by kernel_rfl) (fun _ _ _ h => h) (Or.inl ⟨by rfl, ?_⟩) (by assumption) ?_
    rotate_left
    · (intro w hSw; (try dsimp only at hSw); go_simp; try with_reducible rfl)
    simp only [Act.put, List.getElem_toArray, List.getElem_cons_succ, List.getElem_cons_zero, List.setIfInBounds_toArray, List.set_cons_zero, List.set_cons_succ]
    refine wpAnyH_take (i := 25) (v := ?_) rfl (by kernel_rfl) (by kernel_rfl) (by kernel_rfl) (fun _ _ _ h => h) (Or.inl ⟨by rfl, ?_⟩) (by assumption) ?_
    rotate_left
    · (intro w hSw; (try dsimp only at hSw); go_simp; try with_reducible rfl)
    simp only [Act.put, List.getElem_toArray, List.getElem_cons_succ, List.getElem_cons_zero, List.setIfInBounds_toArray, List.set_cons_zero, List.set_cons_succ]
    refine wpAnyH_take (i := 26) (v := ?_) rfl (by kernel_rfl) (by kernel_rfl) (by kernel_rfl) (fun _ _ _ h => h) (Or.inl ⟨by rfl, ?_⟩) (by assumption) ?_
    rotate_left
    · (intro w hSw; (try dsimp only at hSw); have c0 := IA.out w (hSw _ (by have := LN.out; omega)); go_simp; try with_reducible rfl)
    simp only [Act.put, List.getElem_toArray, List.getElem_cons_succ, List.getElem_cons_zero, List.setIfInBounds_toArray, List.set_cons_zero, List.set_cons_succ]
    refine wpAnyH_take (i := 27) (v := ?_) rfl (by kernel_rfl) (by kernel_rfl) (by kernel_rfl) (fun _ _ _ h => h) (Or.inl ⟨by rfl, ?_⟩) (by assumption) ?_
    rotate_left
    · (intro w hSw; (try dsimp only at hSw); go_simp; try with_reducible rfl)
    simp only [Act.put, List.getElem_toArray, List.getElem_cons_succ, List.getElem_cons_zero, List.setIfInBounds_toArray, List.set_cons_zero, List.set_cons_succ]
    refine wpAnyH_take (i := 28) (v := ?_) rfl (by kernel_rfl) (by kernel_rfl) (by kernel_rfl) (fun _ _ _ h => h) (Or.inl ⟨by rfl, ?_⟩) (by assumption) ?_
    rotate_left
    · (intro w hSw; (try dsimp only at hSw); have c0 := ID.out w (hSw _ (by have := LN.out; omega)); go_simp; try with_reducible rfl)
    simp only [Act.put, List.getElem_toArray, List.getElem_cons_succ, List.getElem_cons_zero, List.setIfInBounds_toArray, List.set_cons_zero, List.set_cons_succ]
    refine wpAnyH_take (i := 29) (v := ?_) rfl (by kernel_rfl) (by kernel_rfl) (by kernel_rfl) (fun _ _ _ h => h) (Or.inl ⟨by rfl, ?_⟩) (by assumption) ?_
    rotate_left
    · (intro w hSw; (try dsimp only at hSw); go_simp; try with_reducible rfl)
    simp only [Act.put, List.getElem_toArray, List.getElem_cons_succ, List.getElem_cons_zero, List.setIfInBounds_toArray, List.set_cons_zero, List.set_cons_succ]
    refine wpAnyH_take (i := 30) (v := ?_) rfl (by kernel_rfl) (by kernel_rfl) (by kernel_rfl) (fun _ _ _ h => h) (Or.inl ⟨by rfl, ?_⟩) (by assumption) ?_
    rotate_left
    · (intro w hSw; (try dsimp only at hSw); go_simp; try with_reducible rfl)
    simp only [Act.put, List.getElem_toArray, List.getElem_cons_succ, List.getElem_cons_zero, List.setIfInBounds_toArray, List.set_cons_zero, List.set_cons_succ]
    refine wpAnyH_take (i := 31) rfl (by kernel_rfl) (by kernel_rfl) (by kernel_rfl) (fun _ _ _ h => h) (Or.inr ⟨by rfl, rfl⟩) (by assumption) ?_
    simp only [Act.put, List.getElem_toArray, List.getElem_cons_succ, List.getElem_cons_zero, List.setIfInBounds_toArray, List.set_cons_zero, List.set_cons_succ]
    refine wpAnyH_take (i := 32) rfl (by kernel_rfl) (by kernel_rfl) (by kernel_rfl) (fun _ _ _ h => h) (Or.inr ⟨by rfl, rfl⟩) (by assumption) ?_
    simp only [Act.put, List.getElem_toArray, List.getElem_cons_succ, List.getElem_cons_zero, List.setIfInBounds_toArray, List.set_cons_zero, List.set_cons_succ]
    refine wpAnyH_take (i := 33) rfl (by kernel_rfl) (by kernel_rfl) (by kernel_rfl) (fun _ _ _ h => h) (Or.inr ⟨by rfl, rfl⟩) (by assumption) ?_
    simp only [Act.put, List.getElem_toArray, List.getElem_cons_succ, List.getElem_cons_zero, List.setIfInBounds_toArray, List.set_cons_zero, List.set_cons_succ]
    refine wpAnyH_take (i := 34) (v := ?_) rfl (by kernel_rfl) (by kernel_rfl) (by kernel_rfl) (fun _ _ _ h => h) (Or.inl ⟨by rfl, ?_⟩) (by assumption) ?_
    rotate_left
    · (intro w hSw; (try dsimp only at hSw); go_simp; try with_reducible rfl)
    simp only [Act.put, List.getElem_toArray, List.getElem_cons_succ, List.getElem_cons_zero, List.setIfInBounds_toArray, List.set_cons_zero, List.set_cons_succ]
    refine wpAnyH_take (i := 35) (v := ?_) rfl (by kernel_rfl) (by kernel_rfl) (by kernel_rfl) (fun _ _ _ h => h) (Or.inl ⟨by rfl, ?_⟩) (by assumption) ?_
    rotate_left
    · (intro w hSw; (try dsimp only at hSw); go_simp; try with_reducible rfl)
    simp only [Act.put, List.getElem_toArray, List.getElem_cons_succ, List.getElem_cons_zero, List.setIfInBounds_toArray, List.set_cons_zero, List.set_cons_succ]
    refine wpAnyH_take (i := 36) (v := ?_) rfl (by kernel_rfl) (by kernel_rfl) (by kernel_rfl) (fun _ _ _ h => h) (Or.inl ⟨by rfl, ?_⟩) (by assumption) ?_
    rotate_left
    · (intro w hSw; (try dsimp only at hSw); go_simp; try with_reducible rfl)
    simp only [Act.put, List.getElem_toArray, List.getElem_cons_succ, List.getElem_cons_zero, List.setIfInBounds_toArray, List.set_cons_zero, List.set_cons_succ]
    refine wpAnyH_done (by kernel_rfl) ?_ _
    go_wp2
    go_ret
    exact ⟨rfl, by rw [HS.out]; exact KN.out _ XX.out⟩
end Go.Proofs.YtkmfmkonejdjiaaDoor
