/-
  The document's EncodeTx.
-/
import Derived.Test.YtffaddefnpkcgaaGreatDoorZ73
import Derived.Test.YtffaddefnpkcgaaGreatDoorZ76
import Derived.Test.YtffaddefnpkcgaaGreatDoorZT40
import Derived.Test.YtffaddefnpkcgaaGreatDoorZW
namespace Go.Proofs.YtffaddefnpkcgaaGreatDoor
open Go.RowKit
set_option maxRecDepth 100000
def DEnc (t : TxP) (w : World) (e : Ending) (w' : World) : Prop :=
  (if mayT t = true then ∃ A c, e = .returned (.tuple #[.slice A (encT t).length c, .int .i64 0]) ∧ Ob w.heap.size w' A (encT t).length c (encT t)
  else e = .returned (.tuple #[.slice none 0 0, .int .i64 1])) ∧ Below w.heap.size w w'
attribute [local irreducible] bvals vals cel seg digs enc rwB rcd encL bodT encT mayT txC parC cerC claC
set_option maxHeartbeats 8000000 in
theorem dEnc0 (t : TxP) (h : TxH) (w : World) (ht : WfT t) (hm : Mem w t h) (hf : FewT t) (hc : mayT t = false) :
    Calls Tryz.prog 12 #[.agg (txC t h).toArray] w (DEnc t w) := by
  unfold DEnc
  rw [hc]
  obtain ⟨S, hS0⟩ : ∃ S, w.heap.size = S := ⟨_, rfl⟩
  have HS := Lib.hid hS0
  have XB : Hid (BL (w.alloc (Obj.cells (txC t h).toArray 39)) S (txC t h) 39) := by rw [← hS0]; exact heap_alloc_last w _
  have B0 : Hid (Below S w (w.alloc (Obj.cells (txC t h).toArray 39))) := by rw [← hS0]; exact (Below.refl _ w).alloc (Nat.le_refl _) _
  have WN : Hid (S + 1 ≤ (w.alloc (Obj.cells (txC t h).toArray 39)).heap.size) := Lib.hid (Nat.le_of_eq (by rw [World.size_alloc, hS0]))
  have MM : Hid (∀ w', Below S w w' → Mem w' t h) := Lib.hid fun w' hb => hm.keep fun q hq => hb.block q (by rw [← hS0]; exact hq)
  have HI : Hid ((Tryz.prog.info? 39).map (·.size) = some (txC t h).length) := szL i39 (txC_len h ht)
  have MY : Hid (∀ w', Below S w w' → Calls Tryz.prog 16 #[.agg (txC t h).toArray] w' fun e w'' => e = .returned (.bool false) ∧ Below w'.heap.size w' w'') := Lib.hid fun w' hb => by
    have := dMayTx t h w' ht (MM.out w' hb) hf
    rwa [hc] at this
  have HT := Lib.hid ht
  have HF := Lib.hid hf
  clear ht hm hf hc
  generalize hP : txC t h = P at *
  clear hP HT HF
  go_enter Tryz.func12, Tryz.ntmps12
  go_upto_region 1 with (fail)
  generalize (w.alloc (Obj.cells P.toArray 39)) = v at *
  clear hS0
  go_wp2_with (first
    | (refine wpList_load_midG (by rfl) 39 (.tmp 1) rfl S 0 rfl P _ (range_of XB.out) Tryz.underlying39 rfl HI.out ?_)
    | (go_at_call 16; refine (MY.out _ B0.out).mono ?_; rintro e v1 ⟨rfl, hb⟩; have B1 := Lib.hid (B0.out.trans (hb.mono (by have := WN.out; omega))); have X1 := Lib.hid (bl_keep XB.out (hb.block S (by have := WN.out; omega))); have W1 : Hid (S + 1 ≤ v1.heap.size) := Lib.hid (Nat.le_trans WN.out hb.size); clear hb)
    | fail)
  go_ret2
  exact ⟨rfl, by rw [HS.out]; exact B1.out⟩
set_option maxHeartbeats 8000000 in
theorem dEnc1 (t : TxP) (h : TxH) (w : World) (ht : WfT t) (hm : Mem w t h) (hf : FewT t) (hc : mayT t = true) (hk : t.kind = 1) :
    Calls Tryz.prog 12 #[.agg (txC t h).toArray] w (DEnc t w) := by
  unfold DEnc
  rw [hc]
  obtain ⟨S, hS0⟩ : ∃ S, w.heap.size = S := ⟨_, rfl⟩
  have HS := Lib.hid hS0
  have XB : Hid (BL (w.alloc (Obj.cells (txC t h).toArray 39)) S (txC t h) 39) := by rw [← hS0]; exact heap_alloc_last w _
  have B0 : Hid (Below S w (w.alloc (Obj.cells (txC t h).toArray 39))) := by rw [← hS0]; exact (Below.refl _ w).alloc (Nat.le_refl _) _
  have WN : Hid (S + 1 ≤ (w.alloc (Obj.cells (txC t h).toArray 39)).heap.size) := Lib.hid (Nat.le_of_eq (by rw [World.size_alloc, hS0]))
  have MM : Hid (∀ w', Below S w w' → Mem w' t h) := Lib.hid fun w' hb => hm.keep fun q hq => hb.block q (by rw [← hS0]; exact hq)
  have HI : Hid ((Tryz.prog.info? 39).map (·.size) = some (txC t h).length) := szL i39 (txC_len h ht)
  have MY : Hid (∀ w', Below S w w' → Calls Tryz.prog 16 #[.agg (txC t h).toArray] w' fun e w'' => e = .returned (.bool true) ∧ Below w'.heap.size w' w'') := Lib.hid fun w' hb => by
    have := dMayTx t h w' ht (MM.out w' hb) hf
    rwa [hc] at this
  have HT := Lib.hid ht
  have HF := Lib.hid hf
  have CF : Hid (∀ w' : World, BL w' S (txC t h) 39 → TRng w' S t h) := Lib.hid fun w' hb => trng HT.out (range_of hb)
  have CK : Hid (∀ w' : World, BL w' S (txC t h) 39 → w'.cell? ⟨S, 0, none⟩ = some (.int .i64 1)) := Lib.hid fun w' hb => by have := (CF.out w' hb).kind; rwa [hk] at this
  have HK : Hid (t.kind = 1) := Lib.hid hk
  have EB := Lib.hid (show encT t = digs 1 1 ++ bodT t by unfold encT; rw [hk])
  rw [bod_1 hk] at EB
  have DO : Hid (∀ w', Below S w w' → Calls Tryz.prog 32 #[.slice h.o.A t.outs.length h.o.c] w' fun e w'' => ∃ A c, e = .returned (.slice A (1 + t.outs.length * 15) c) ∧ Ob w'.heap.size w'' A (1 + t.outs.length * 15) c (encL outS t.outs) ∧ Below w'.heap.size w' w'') := Lib.hid fun w' hb => dOutsB h.o.A t.outs.length h.o.c t.outs w' rfl (MM.out w' hb).o HT.out.outs (MM.out w' hb).oc.le HF.out.o
  have LO : t.outs.length ≤ 100 := hf.o
  clear ht hm hf hc hk
  generalize hP : txC t h = P at *
  clear hP
  go_enter Tryz.func12, Tryz.ntmps12
  go_upto_region 1 with (fail)
  generalize (w.alloc (Obj.cells P.toArray 39)) = v at *
  clear hS0
  go_upto_region 3 with (first
    | (refine wpList_load_midG (by rfl) 39 (.tmp 1) rfl S 0 rfl P _ (range_of XB.out) Tryz.underlying39 rfl HI.out ?_)
    | (go_at_call 16; refine (MY.out _ B0.out).mono ?_; rintro e v1 ⟨rfl, hb⟩; have B1 := Lib.hid (B0.out.trans (hb.mono (by have := WN.out; omega))); have X1 := Lib.hid (bl_keep XB.out (hb.block S (by have := WN.out; omega))); have W1 : Hid (S + 1 ≤ v1.heap.size) := Lib.hid (Nat.le_trans WN.out hb.size); clear hb)
    | fail)
  clear XB
  have k0 := CK.out _ X1.out
  go_upto_region 4 with (first
    | (go_at_call 31; refine (dNum 1 1 _ (by decide)).mono ?_; rintro e v2 ⟨A1, c1, rfl, ho, hb⟩; have OA : Hid (Ob (S + 1) v2 A1 1 c1 (digs 1 1)) := Lib.hid (ob_low ho W1.out); have BB := Lib.hid (B1.out.trans (hb.mono (by have := W1.out; omega))); have XB := Lib.hid (bl_keep X1.out (hb.block S (by have := W1.out; omega))); have WW : Hid (S + 1 ≤ v2.heap.size) := Lib.hid (Nat.le_trans W1.out hb.size); clear hb ho)
    | fail)
  clear k0 W1 X1 B1 WN MY HI
  have WN := Lib.hid WW.out
  have k0 := CK.out _ XB.out
  go_upto_region 6 with fail
  clear k0
  rename_i K hK
  have XX : Hid (Below (S + 1) v2 v2.drew) := (Below.refl _ _).drew
  replace OA := Lib.hid (ob_drew OA.out)
  refine wp_region_held_drew (S := (fun w' : World => ∀ q, q < (S + 1) → w'.heap[q]? = v2.heap[q]?)) (by kernel_rfl) (by exact fun _ _ => rfl) (fun hHeld => ?_)
  refine tk (i := 0) (v := ?_) rfl (Or.inl ⟨by rfl, ?_⟩) (by assumption) ?_
  rotate_left
  · (intro w hSw; (try dsimp only at hSw); go_simp; try with_reducible rfl)
  simp only [Act.put, ly1, ly3, ly4, ly5, ly6]
  refine tk (i := 1) (v := ?_) rfl (Or.inl ⟨by rfl, ?_⟩) (by assumption) ?_
  rotate_left
  · (intro w hSw; (try dsimp only at hSw); go_simp; try with_reducible rfl)
  simp only [Act.put, ly1, ly2, ly3, ly4, ly5, ly6]
  refine tk (i := 2) (v := ?_) rfl (Or.inl ⟨by rfl, ?_⟩) (by assumption) ?_
  rotate_left
  · (intro w hSw; (try dsimp only at hSw); have c1 := CF.out w ((hSw S (by omega)).trans XB.out); have c2 := c1.height; go_simp; try with_reducible rfl)
  simp only [Act.put, ly1, ly2, ly3, ly4, ly5, ly6]
  refine tk (i := 5) (v := ?_) rfl (Or.inl ⟨by rfl, ?_⟩) (by assumption) ?_
  rotate_left
  · (intro w hSw; (try dsimp only at hSw); go_simp; try with_reducible rfl)
  simp only [Act.put, ly1, ly2, ly3, ly4, ly5, ly6]
  refine tk (i := 6) (v := ?_) rfl (Or.inl ⟨by rfl, ?_⟩) (by assumption) ?_
  rotate_left
  · (intro w hSw; (try dsimp only at hSw); have c1 := CF.out w ((hSw S (by omega)).trans XB.out); have c2 := c1.o; go_simp; try with_reducible rfl)
  simp only [Act.put, ly1, ly2, ly3, ly4, ly5, ly6]
  refine wpAnyH_ready (rs := [3]) (by kernel_rfl) (by simp) ?_
  refine AllReadyH.cons rfl (fun K hK => ?_) AllReadyH.nil
  go_simp
  go_at_call 31
  refine (dNum t.height 4 _ (by decide)).mono ?_
  rintro e wa1 ⟨AM, cM, rfl, hob, hba⟩
  have XN : Hid (Below (S + 1) v2 wa1) := XX.out.trans (hba.mono (by have := XX.out.size; have := WN.out; omega))
  replace OA := Lib.hid (ob_keep OA.out hba)
  have OM : Hid (Ob (S + 1) wa1 AM _ cM (digs t.height 4)) := Lib.hid (ob_low hob (by have := XX.out.size; have := WN.out; omega))
  clear XX hba hob hHeld
  have XX := XN
  clear XN
  (try go_wp2_with fail)
  refine hK.out _ _ (by exact fun q hq => XX.out.block q hq) (fun hHeld => ?_)
  clear hK K
  refine wpAnyH_ready (rs := [4]) (by kernel_rfl) (by simp) ?_
  refine AllReadyH.cons rfl (fun K hK => ?_) AllReadyH.nil
  refine step_ap rfl (.tmp 15) (.tmp 18) rfl ((S + 1)) (1) _ _ _ rfl OA.out _ (4) _ _ rfl (ob_src OM.out) ((ob_cap OM.out).2.2) (by omega) (by have := XX.out.size; have := WN.out; omega) ?_
  intro A2 c2 wa2 hob hba hot
  have XN : Hid (Below (S + 1) v2 wa2) := XX.out.trans (hba.mono (by omega))
  have O2 : Hid (Ob (S + 1) wa2 A2 _ c2 (digs 1 1 ++ digs t.height 4)) := Lib.hid (hob)
  clear XX hba hob hot hHeld
  have XX := XN
  clear XN
  refine hK.out _ _ (by exact fun q hq => XX.out.block q hq) (fun hHeld => ?_)
  clear hK K
  refine wpAnyH_ready (rs := [7]) (by kernel_rfl) (by simp) ?_
  refine AllReadyH.cons rfl (fun K hK => ?_) AllReadyH.nil
  go_simp
  go_at_call 32
  refine (DO.out _ (BB.out.trans (XX.out.mono (by omega)))).mono ?_
  rintro e wa3 ⟨AP, cP, rfl, hob, hba⟩
  have XN : Hid (Below (S + 1) v2 wa3) := XX.out.trans (hba.mono (by have := XX.out.size; have := WN.out; omega))
  replace O2 := Lib.hid (ob_keep O2.out hba)
  have OP : Hid (Ob (S + 1) wa3 AP _ cP (encL outS t.outs)) := Lib.hid (ob_low hob (by have := XX.out.size; have := WN.out; omega))
  clear XX hba hob hHeld
  have XX := XN
  clear XN
  (try go_wp2_with fail)
  refine hK.out _ _ (by exact fun q hq => XX.out.block q hq) (fun hHeld => ?_)
  clear hK K
  refine wpAnyH_ready (rs := [8]) (by kernel_rfl) (by simp) ?_
  refine AllReadyH.cons rfl (fun K hK => ?_) AllReadyH.nil
  refine step_ap rfl (.tmp 19) (.tmp 22) rfl ((S + 1)) (1 + 4) _ _ _ rfl O2.out _ (1 + t.outs.length * 15) _ _ rfl (ob_src OP.out) ((ob_cap OP.out).2.2) (by omega) (by have := XX.out.size; have := WN.out; omega) ?_
  intro A3 c3 wa4 hob hba hot
  have XN : Hid (Below (S + 1) v2 wa4) := XX.out.trans (hba.mono (by omega))
  have O3 : Hid (Ob (S + 1) wa4 A3 _ c3 (digs 1 1 ++ digs t.height 4 ++ encL outS t.outs)) := Lib.hid (hob)
  clear XX hba hob hot hHeld
  have XX := XN
  clear XN
  refine hK.out _ _ (by exact fun q hq => XX.out.block q hq) (fun hHeld => ?_)
  clear hK K
  refine tk (i := 9) (v := ?_) rfl (Or.inl ⟨by rfl, ?_⟩) (by assumption) ?_
  rotate_left
  · (intro w hSw; (try dsimp only at hSw); go_simp; try with_reducible rfl)
  simp only [Act.put, ly1, ly2, ly3, ly4, ly5, ly6]
  refine tk (i := 10) (v := ?_) rfl (Or.inl ⟨by rfl, ?_⟩) (by assumption) ?_
  rotate_left
  · (intro w hSw; (try dsimp only at hSw); go_simp; try with_reducible rfl)
  simp only [Act.put, ly1, ly2, ly3, ly4, ly5, ly6]
  refine wpAnyH_done (by kernel_rfl) ?_ _
  show K _ _
  refine hK _ _ ?_
  clear hK K hHeld
  go_wp2
  go_ret2
  exact ⟨⟨A3, c3, congrArg (fun n => Ending.returned (.tuple #[.slice A3 n c3, .int .i64 0])) ((ob_len O3.out).symm.trans (congrArg List.length (by rw [EB.out]; simp only [List.append_assoc]))), by rw [HS.out]; exact ob_eq (ob_low O3.out (by omega)) ((ob_len O3.out).symm.trans (congrArg List.length (by rw [EB.out]; simp only [List.append_assoc]))) (by rw [EB.out]; simp only [List.append_assoc])⟩, by rw [HS.out]; exact BB.out.trans (XX.out.mono (by omega))⟩
set_option maxHeartbeats 8000000 in
theorem dEnc2 (t : TxP) (h : TxH) (w : World) (ht : WfT t) (hm : Mem w t h) (hf : FewT t) (hc : mayT t = true) (hk : t.kind = 2) :
    Calls Tryz.prog 12 #[.agg (txC t h).toArray] w (DEnc t w) := by
  unfold DEnc
  rw [hc]
  obtain ⟨S, hS0⟩ : ∃ S, w.heap.size = S := ⟨_, rfl⟩
  have HS := Lib.hid hS0
  have XB : Hid (BL (w.alloc (Obj.cells (txC t h).toArray 39)) S (txC t h) 39) := by rw [← hS0]; exact heap_alloc_last w _
  have B0 : Hid (Below S w (w.alloc (Obj.cells (txC t h).toArray 39))) := by rw [← hS0]; exact (Below.refl _ w).alloc (Nat.le_refl _) _
  have WN : Hid (S + 1 ≤ (w.alloc (Obj.cells (txC t h).toArray 39)).heap.size) := Lib.hid (Nat.le_of_eq (by rw [World.size_alloc, hS0]))
  have MM : Hid (∀ w', Below S w w' → Mem w' t h) := Lib.hid fun w' hb => hm.keep fun q hq => hb.block q (by rw [← hS0]; exact hq)
  have HI : Hid ((Tryz.prog.info? 39).map (·.size) = some (txC t h).length) := szL i39 (txC_len h ht)
  have MY : Hid (∀ w', Below S w w' → Calls Tryz.prog 16 #[.agg (txC t h).toArray] w' fun e w'' => e = .returned (.bool true) ∧ Below w'.heap.size w' w'') := Lib.hid fun w' hb => by
    have := dMayTx t h w' ht (MM.out w' hb) hf
    rwa [hc] at this
  have HT := Lib.hid ht
  have HF := Lib.hid hf
  have CF : Hid (∀ w' : World, BL w' S (txC t h) 39 → TRng w' S t h) := Lib.hid fun w' hb => trng HT.out (range_of hb)
  have CK : Hid (∀ w' : World, BL w' S (txC t h) 39 → w'.cell? ⟨S, 0, none⟩ = some (.int .i64 2)) := Lib.hid fun w' hb => by have := (CF.out w' hb).kind; rwa [hk] at this
  have HK : Hid (t.kind = 2) := Lib.hid hk
  have EB := Lib.hid (show encT t = digs 2 1 ++ bodT t by unfold encT; rw [hk])
  rw [bod_2 hk] at EB
  have DO : Hid (∀ w', Below S w w' → Calls Tryz.prog 32 #[.slice h.o.A t.outs.length h.o.c] w' fun e w'' => ∃ A c, e = .returned (.slice A (1 + t.outs.length * 15) c) ∧ Ob w'.heap.size w'' A (1 + t.outs.length * 15) c (encL outS t.outs) ∧ Below w'.heap.size w' w'') := Lib.hid fun w' hb => dOutsB h.o.A t.outs.length h.o.c t.outs w' rfl (MM.out w' hb).o HT.out.outs (MM.out w' hb).oc.le HF.out.o
  have DI : Hid (∀ w', Below S w w' → Calls Tryz.prog 33 #[.slice h.i.A t.ins.length h.i.c] w' fun e w'' => ∃ A c, e = .returned (.slice A (1 + t.ins.length * 298) c) ∧ Ob w'.heap.size w'' A (1 + t.ins.length * 298) c (encL inS t.ins) ∧ Below w'.heap.size w' w'') := Lib.hid fun w' hb => dInsB h.i.A t.ins.length h.i.c t.ins w' rfl (MM.out w' hb).i HT.out.ins (MM.out w' hb).ic.le HF.out.i
  have DF : Hid (∀ w', Below S w w' → Calls Tryz.prog 34 #[.slice h.f.A t.fwds.length h.f.c] w' fun e w'' => ∃ A c, e = .returned (.slice A (1 + t.fwds.length * 18) c) ∧ Ob w'.heap.size w'' A (1 + t.fwds.length * 18) c (encL fwdS t.fwds) ∧ Below w'.heap.size w' w'') := Lib.hid fun w' hb => dFwdsB h.f.A t.fwds.length h.f.c t.fwds w' rfl (MM.out w' hb).f HT.out.fwds (MM.out w' hb).fc.le HF.out.f
  have LO : t.outs.length ≤ 100 := hf.o
  have LI : t.ins.length ≤ 100 := hf.i
  have LF : t.fwds.length ≤ 100 := hf.f
  clear ht hm hf hc hk
  generalize hP : txC t h = P at *
  clear hP
  go_enter Tryz.func12, Tryz.ntmps12
  go_upto_region 1 with (fail)
  generalize (w.alloc (Obj.cells P.toArray 39)) = v at *
  clear hS0
  go_upto_region 3 with (first
    | (refine wpList_load_midG (by rfl) 39 (.tmp 1) rfl S 0 rfl P _ (range_of XB.out) Tryz.underlying39 rfl HI.out ?_)
    | (go_at_call 16; refine (MY.out _ B0.out).mono ?_; rintro e v1 ⟨rfl, hb⟩; have B1 := Lib.hid (B0.out.trans (hb.mono (by have := WN.out; omega))); have X1 := Lib.hid (bl_keep XB.out (hb.block S (by have := WN.out; omega))); have W1 : Hid (S + 1 ≤ v1.heap.size) := Lib.hid (Nat.le_trans WN.out hb.size); clear hb)
    | fail)
  clear XB
  have k0 := CK.out _ X1.out
  go_upto_region 4 with (first
    | (go_at_call 31; refine (dNum 2 1 _ (by decide)).mono ?_; rintro e v2 ⟨A1, c1, rfl, ho, hb⟩; have OA : Hid (Ob (S + 1) v2 A1 1 c1 (digs 2 1)) := Lib.hid (ob_low ho W1.out); have BB := Lib.hid (B1.out.trans (hb.mono (by have := W1.out; omega))); have XB := Lib.hid (bl_keep X1.out (hb.block S (by have := W1.out; omega))); have WW : Hid (S + 1 ≤ v2.heap.size) := Lib.hid (Nat.le_trans W1.out hb.size); clear hb ho)
    | fail)
  clear k0 W1 X1 B1 WN MY HI
  have WN := Lib.hid WW.out
  have k0 := CK.out _ XB.out
  go_upto_region 8 with fail
  clear k0
  rename_i K hK
  have XX : Hid (Below (S + 1) v2 v2.drew) := (Below.refl _ _).drew
  replace OA := Lib.hid (ob_drew OA.out)
  refine wp_region_held_drew (S := (fun w' : World => ∀ q, q < (S + 1) → w'.heap[q]? = v2.heap[q]?)) (by kernel_rfl) (by exact fun _ _ => rfl) (fun hHeld => ?_)
  refine tk (i := 0) (v := ?_) rfl (Or.inl ⟨by rfl, ?_⟩) (by assumption) ?_
  rotate_left
  · (intro w hSw; (try dsimp only at hSw); go_simp; try with_reducible rfl)
  simp only [Act.put, ly1, ly3, ly4, ly5, ly6]
  refine tk (i := 1) (v := ?_) rfl (Or.inl ⟨by rfl, ?_⟩) (by assumption) ?_
  rotate_left
  · (intro w hSw; (try dsimp only at hSw); go_simp; try with_reducible rfl)
  simp only [Act.put, ly1, ly2, ly3, ly4, ly5, ly6]
  refine tk (i := 2) (v := ?_) rfl (Or.inl ⟨by rfl, ?_⟩) (by assumption) ?_
  rotate_left
  · (intro w hSw; (try dsimp only at hSw); have c1 := CF.out w ((hSw S (by omega)).trans XB.out); have c2 := c1.i; go_simp; try with_reducible rfl)
  simp only [Act.put, ly1, ly2, ly3, ly4, ly5, ly6]
  refine tk (i := 5) (v := ?_) rfl (Or.inl ⟨by rfl, ?_⟩) (by assumption) ?_
  rotate_left
  · (intro w hSw; (try dsimp only at hSw); go_simp; try with_reducible rfl)
  simp only [Act.put, ly1, ly2, ly3, ly4, ly5, ly6]
  refine tk (i := 6) (v := ?_) rfl (Or.inl ⟨by rfl, ?_⟩) (by assumption) ?_
  rotate_left
  · (intro w hSw; (try dsimp only at hSw); have c1 := CF.out w ((hSw S (by omega)).trans XB.out); have c2 := c1.o; go_simp; try with_reducible rfl)
  simp only [Act.put, ly1, ly2, ly3, ly4, ly5, ly6]
  refine tk (i := 9) (v := ?_) rfl (Or.inl ⟨by rfl, ?_⟩) (by assumption) ?_
  rotate_left
  · (intro w hSw; (try dsimp only at hSw); go_simp; try with_reducible rfl)
  simp only [Act.put, ly1, ly2, ly3, ly4, ly5, ly6]
  refine tk (i := 10) (v := ?_) rfl (Or.inl ⟨by rfl, ?_⟩) (by assumption) ?_
  rotate_left
  · (intro w hSw; (try dsimp only at hSw); have c1 := CF.out w ((hSw S (by omega)).trans XB.out); have c2 := c1.f; go_simp; try with_reducible rfl)
  simp only [Act.put, ly1, ly2, ly3, ly4, ly5, ly6]
  refine wpAnyH_ready (rs := [3]) (by kernel_rfl) (by simp) ?_
  refine AllReadyH.cons rfl (fun K hK => ?_) AllReadyH.nil
  go_simp
  go_at_call 33
  refine (DI.out _ (BB.out.trans (XX.out.mono (by omega)))).mono ?_
  rintro e wa1 ⟨AM, cM, rfl, hob, hba⟩
  have XN : Hid (Below (S + 1) v2 wa1) := XX.out.trans (hba.mono (by have := XX.out.size; have := WN.out; omega))
  replace OA := Lib.hid (ob_keep OA.out hba)
  have OM : Hid (Ob (S + 1) wa1 AM _ cM (encL inS t.ins)) := Lib.hid (ob_low hob (by have := XX.out.size; have := WN.out; omega))
  clear XX hba hob hHeld
  have XX := XN
  clear XN
  (try go_wp2_with fail)
  refine hK.out _ _ (by exact fun q hq => XX.out.block q hq) (fun hHeld => ?_)
  clear hK K
  refine wpAnyH_ready (rs := [4]) (by kernel_rfl) (by simp) ?_
  refine AllReadyH.cons rfl (fun K hK => ?_) AllReadyH.nil
  refine step_ap rfl (.tmp 26) (.tmp 29) rfl ((S + 1)) (1) _ _ _ rfl OA.out _ (1 + t.ins.length * 298) _ _ rfl (ob_src OM.out) ((ob_cap OM.out).2.2) (by omega) (by have := XX.out.size; have := WN.out; omega) ?_
  intro A2 c2 wa2 hob hba hot
  have XN : Hid (Below (S + 1) v2 wa2) := XX.out.trans (hba.mono (by omega))
  have O2 : Hid (Ob (S + 1) wa2 A2 _ c2 (digs 2 1 ++ encL inS t.ins)) := Lib.hid (hob)
  clear XX hba hob hot hHeld
  have XX := XN
  clear XN
  refine hK.out _ _ (by exact fun q hq => XX.out.block q hq) (fun hHeld => ?_)
  clear hK K
  refine wpAnyH_ready (rs := [7]) (by kernel_rfl) (by simp) ?_
  refine AllReadyH.cons rfl (fun K hK => ?_) AllReadyH.nil
  go_simp
  go_at_call 32
  refine (DO.out _ (BB.out.trans (XX.out.mono (by omega)))).mono ?_
  rintro e wa3 ⟨AP, cP, rfl, hob, hba⟩
  have XN : Hid (Below (S + 1) v2 wa3) := XX.out.trans (hba.mono (by have := XX.out.size; have := WN.out; omega))
  replace O2 := Lib.hid (ob_keep O2.out hba)
  have OP : Hid (Ob (S + 1) wa3 AP _ cP (encL outS t.outs)) := Lib.hid (ob_low hob (by have := XX.out.size; have := WN.out; omega))
  clear XX hba hob hHeld
  have XX := XN
  clear XN
  (try go_wp2_with fail)
  refine hK.out _ _ (by exact fun q hq => XX.out.block q hq) (fun hHeld => ?_)
  clear hK K
  refine wpAnyH_ready (rs := [8]) (by kernel_rfl) (by simp) ?_
  refine AllReadyH.cons rfl (fun K hK => ?_) AllReadyH.nil
  refine step_ap rfl (.tmp 30) (.tmp 33) rfl ((S + 1)) (1 + (1 + t.ins.length * 298)) _ _ _ rfl O2.out _ (1 + t.outs.length * 15) _ _ rfl (ob_src OP.out) ((ob_cap OP.out).2.2) (by omega) (by have := XX.out.size; have := WN.out; omega) ?_
  intro A3 c3 wa4 hob hba hot
  have XN : Hid (Below (S + 1) v2 wa4) := XX.out.trans (hba.mono (by omega))
  have O3 : Hid (Ob (S + 1) wa4 A3 _ c3 (digs 2 1 ++ encL inS t.ins ++ encL outS t.outs)) := Lib.hid (hob)
  clear XX hba hob hot hHeld
  have XX := XN
  clear XN
  refine hK.out _ _ (by exact fun q hq => XX.out.block q hq) (fun hHeld => ?_)
  clear hK K
  refine wpAnyH_ready (rs := [11]) (by kernel_rfl) (by simp) ?_
  refine AllReadyH.cons rfl (fun K hK => ?_) AllReadyH.nil
  go_simp
  go_at_call 34
  refine (DF.out _ (BB.out.trans (XX.out.mono (by omega)))).mono ?_
  rintro e wa5 ⟨AQ, cQ, rfl, hob, hba⟩
  have XN : Hid (Below (S + 1) v2 wa5) := XX.out.trans (hba.mono (by have := XX.out.size; have := WN.out; omega))
  replace O3 := Lib.hid (ob_keep O3.out hba)
  have OQ : Hid (Ob (S + 1) wa5 AQ _ cQ (encL fwdS t.fwds)) := Lib.hid (ob_low hob (by have := XX.out.size; have := WN.out; omega))
  clear XX hba hob hHeld
  have XX := XN
  clear XN
  (try go_wp2_with fail)
  refine hK.out _ _ (by exact fun q hq => XX.out.block q hq) (fun hHeld => ?_)
  clear hK K
  refine wpAnyH_ready (rs := [12]) (by kernel_rfl) (by simp) ?_
  refine AllReadyH.cons rfl (fun K hK => ?_) AllReadyH.nil
  refine step_ap rfl (.tmp 34) (.tmp 37) rfl ((S + 1)) (1 + (1 + t.ins.length * 298) + (1 + t.outs.length * 15)) _ _ _ rfl O3.out _ (1 + t.fwds.length * 18) _ _ rfl (ob_src OQ.out) ((ob_cap OQ.out).2.2) (by omega) (by have := XX.out.size; have := WN.out; omega) ?_
  intro A4 c4 wa6 hob hba hot
  have XN : Hid (Below (S + 1) v2 wa6) := XX.out.trans (hba.mono (by omega))
  have O4 : Hid (Ob (S + 1) wa6 A4 _ c4 (digs 2 1 ++ encL inS t.ins ++ encL outS t.outs ++ encL fwdS t.fwds)) := Lib.hid (hob)
  clear XX hba hob hot hHeld
  have XX := XN
  clear XN
  refine hK.out _ _ (by exact fun q hq => XX.out.block q hq) (fun hHeld => ?_)
  clear hK K
  refine tk (i := 13) (v := ?_) rfl (Or.inl ⟨by rfl, ?_⟩) (by assumption) ?_
  rotate_left
  · (intro w hSw; (try dsimp only at hSw); go_simp; try with_reducible rfl)
  simp only [Act.put, ly1, ly2, ly3, ly4, ly5, ly6]
  refine tk (i := 14) (v := ?_) rfl (Or.inl ⟨by rfl, ?_⟩) (by assumption) ?_
  rotate_left
  · (intro w hSw; (try dsimp only at hSw); go_simp; try with_reducible rfl)
  simp only [Act.put, ly1, ly2, ly3, ly4, ly5, ly6]
  refine wpAnyH_done (by kernel_rfl) ?_ _
  show K _ _
  refine hK _ _ ?_
  clear hK K hHeld
  go_wp2
  go_ret2
  exact ⟨⟨A4, c4, congrArg (fun n => Ending.returned (.tuple #[.slice A4 n c4, .int .i64 0])) ((ob_len O4.out).symm.trans (congrArg List.length (by rw [EB.out]; simp only [List.append_assoc]))), by rw [HS.out]; exact ob_eq (ob_low O4.out (by omega)) ((ob_len O4.out).symm.trans (congrArg List.length (by rw [EB.out]; simp only [List.append_assoc]))) (by rw [EB.out]; simp only [List.append_assoc])⟩, by rw [HS.out]; exact BB.out.trans (XX.out.mono (by omega))⟩
set_option maxHeartbeats 8000000 in
theorem dEnc3 (t : TxP) (h : TxH) (w : World) (ht : WfT t) (hm : Mem w t h) (hf : FewT t) (hc : mayT t = true) (hk : t.kind = 3) :
    Calls Tryz.prog 12 #[.agg (txC t h).toArray] w (DEnc t w) := by
  unfold DEnc
  rw [hc]
  obtain ⟨S, hS0⟩ : ∃ S, w.heap.size = S := ⟨_, rfl⟩
  have HS := Lib.hid hS0
  have XB : Hid (BL (w.alloc (Obj.cells (txC t h).toArray 39)) S (txC t h) 39) := by rw [← hS0]; exact heap_alloc_last w _
  have B0 : Hid (Below S w (w.alloc (Obj.cells (txC t h).toArray 39))) := by rw [← hS0]; exact (Below.refl _ w).alloc (Nat.le_refl _) _
  have WN : Hid (S + 1 ≤ (w.alloc (Obj.cells (txC t h).toArray 39)).heap.size) := Lib.hid (Nat.le_of_eq (by rw [World.size_alloc, hS0]))
  have MM : Hid (∀ w', Below S w w' → Mem w' t h) := Lib.hid fun w' hb => hm.keep fun q hq => hb.block q (by rw [← hS0]; exact hq)
  have HI : Hid ((Tryz.prog.info? 39).map (·.size) = some (txC t h).length) := szL i39 (txC_len h ht)
  have MY : Hid (∀ w', Below S w w' → Calls Tryz.prog 16 #[.agg (txC t h).toArray] w' fun e w'' => e = .returned (.bool true) ∧ Below w'.heap.size w' w'') := Lib.hid fun w' hb => by
    have := dMayTx t h w' ht (MM.out w' hb) hf
    rwa [hc] at this
  have HT := Lib.hid ht
  have HF := Lib.hid hf
  have CF : Hid (∀ w' : World, BL w' S (txC t h) 39 → TRng w' S t h) := Lib.hid fun w' hb => trng HT.out (range_of hb)
  have CK : Hid (∀ w' : World, BL w' S (txC t h) 39 → w'.cell? ⟨S, 0, none⟩ = some (.int .i64 3)) := Lib.hid fun w' hb => by have := (CF.out w' hb).kind; rwa [hk] at this
  have HK : Hid (t.kind = 3) := Lib.hid hk
  have EB := Lib.hid (show encT t = digs 3 1 ++ bodT t by unfold encT; rw [hk])
  rw [bod_3 hk] at EB
  have LK : t.keys.length ≤ 100 := hf.k
  clear ht hm hf hc hk
  generalize hP : txC t h = P at *
  clear hP
  go_enter Tryz.func12, Tryz.ntmps12
  go_upto_region 1 with (fail)
  generalize (w.alloc (Obj.cells P.toArray 39)) = v at *
  clear hS0
  go_upto_region 3 with (first
    | (refine wpList_load_midG (by rfl) 39 (.tmp 1) rfl S 0 rfl P _ (range_of XB.out) Tryz.underlying39 rfl HI.out ?_)
    | (go_at_call 16; refine (MY.out _ B0.out).mono ?_; rintro e v1 ⟨rfl, hb⟩; have B1 := Lib.hid (B0.out.trans (hb.mono (by have := WN.out; omega))); have X1 := Lib.hid (bl_keep XB.out (hb.block S (by have := WN.out; omega))); have W1 : Hid (S + 1 ≤ v1.heap.size) := Lib.hid (Nat.le_trans WN.out hb.size); clear hb)
    | fail)
  clear XB
  have k0 := CK.out _ X1.out
  go_upto_region 4 with (first
    | (go_at_call 31; refine (dNum 3 1 _ (by decide)).mono ?_; rintro e v2 ⟨A1, c1, rfl, ho, hb⟩; have OA : Hid (Ob (S + 1) v2 A1 1 c1 (digs 3 1)) := Lib.hid (ob_low ho W1.out); have BB := Lib.hid (B1.out.trans (hb.mono (by have := W1.out; omega))); have XB := Lib.hid (bl_keep X1.out (hb.block S (by have := W1.out; omega))); have WW : Hid (S + 1 ≤ v2.heap.size) := Lib.hid (Nat.le_trans W1.out hb.size); clear hb ho)
    | fail)
  clear k0 W1 X1 B1 WN MY HI
  have WN := Lib.hid WW.out
  have k0 := CK.out _ XB.out
  have RG := Lib.hid ((CF.out _ XB.out).par)
  have IG := Lib.hid ((show (Tryz.prog.info? 27).map (·.size) = some (parC t h).length from szL i27 (parC_len h HT.out)))
  go_wp2_with (first
    | (refine wpList_load_midG (by rfl) 27 (.tmp 42) rfl S 5 rfl (parC t h) _ RG.out Tryz.underlying27 rfl IG.out ?_)
    | (go_at_call 35; refine (dParB t h _ HT.out (MM.out _ BB.out) HF.out.k).mono ?_; rintro e v3 ⟨A2, c2, rfl, ho, hb⟩; have O1 := Lib.hid (ob_keep OA.out hb); have OM : Hid (Ob (S + 1) v3 A2 _ c2 (enc parS t.par ++ encL hS t.keys)) := Lib.hid (ob_low ho WN.out); have B3 := Lib.hid (BB.out.trans (hb.mono (by have := WN.out; omega))); have W3 : Hid (S + 1 ≤ v3.heap.size) := Lib.hid (Nat.le_trans WN.out hb.size); clear hb ho)
    | (at_builtin; refine wpList_ap rfl (.tmp 41) (.tmp 44) rfl (S + 1) 1 _ _ _ rfl O1.out _ (3 + (1 + t.keys.length * 8)) _ _ rfl (ob_src OM.out) (ob_cap OM.out).2.2 (by omega) W3.out ?_; intro A3 c3 v4 ho hb _; have O3 := Lib.hid ho; have B4 := Lib.hid (B3.out.trans (hb.mono (by omega))); clear ho hb)
    | fail)
  go_ret2
  exact ⟨⟨A3, c3, congrArg (fun n => Ending.returned (.tuple #[.slice A3 n c3, .int .i64 0])) ((ob_len O3.out).symm.trans (congrArg List.length (by rw [EB.out]))), by rw [HS.out]; exact ob_eq (ob_low O3.out (by omega)) ((ob_len O3.out).symm.trans (congrArg List.length (by rw [EB.out]))) (by rw [EB.out])⟩, by rw [HS.out]; exact B4.out⟩
set_option maxHeartbeats 8000000 in
theorem dEnc4 (t : TxP) (h : TxH) (w : World) (ht : WfT t) (hm : Mem w t h) (hf : FewT t) (hc : mayT t = true) (hk : t.kind = 4) :
    Calls Tryz.prog 12 #[.agg (txC t h).toArray] w (DEnc t w) := by
  unfold DEnc
  rw [hc]
  obtain ⟨S, hS0⟩ : ∃ S, w.heap.size = S := ⟨_, rfl⟩
  have HS := Lib.hid hS0
  have XB : Hid (BL (w.alloc (Obj.cells (txC t h).toArray 39)) S (txC t h) 39) := by rw [← hS0]; exact heap_alloc_last w _
  have B0 : Hid (Below S w (w.alloc (Obj.cells (txC t h).toArray 39))) := by rw [← hS0]; exact (Below.refl _ w).alloc (Nat.le_refl _) _
  have WN : Hid (S + 1 ≤ (w.alloc (Obj.cells (txC t h).toArray 39)).heap.size) := Lib.hid (Nat.le_of_eq (by rw [World.size_alloc, hS0]))
  have MM : Hid (∀ w', Below S w w' → Mem w' t h) := Lib.hid fun w' hb => hm.keep fun q hq => hb.block q (by rw [← hS0]; exact hq)
  have HI : Hid ((Tryz.prog.info? 39).map (·.size) = some (txC t h).length) := szL i39 (txC_len h ht)
  have MY : Hid (∀ w', Below S w w' → Calls Tryz.prog 16 #[.agg (txC t h).toArray] w' fun e w'' => e = .returned (.bool true) ∧ Below w'.heap.size w' w'') := Lib.hid fun w' hb => by
    have := dMayTx t h w' ht (MM.out w' hb) hf
    rwa [hc] at this
  have HT := Lib.hid ht
  have HF := Lib.hid hf
  have CF : Hid (∀ w' : World, BL w' S (txC t h) 39 → TRng w' S t h) := Lib.hid fun w' hb => trng HT.out (range_of hb)
  have CK : Hid (∀ w' : World, BL w' S (txC t h) 39 → w'.cell? ⟨S, 0, none⟩ = some (.int .i64 4)) := Lib.hid fun w' hb => by have := (CF.out w' hb).kind; rwa [hk] at this
  have HK : Hid (t.kind = 4) := Lib.hid hk
  have EB := Lib.hid (show encT t = digs 4 1 ++ bodT t by unfold encT; rw [hk])
  rw [bod_4 hk] at EB
  have LO : t.couts.length ≤ 100 := hf.co
  have LS : t.csigs.length ≤ 100 := hf.cs
  clear ht hm hf hc hk
  generalize hP : txC t h = P at *
  clear hP
  go_enter Tryz.func12, Tryz.ntmps12
  go_upto_region 1 with (fail)
  generalize (w.alloc (Obj.cells P.toArray 39)) = v at *
  clear hS0
  go_upto_region 3 with (first
    | (refine wpList_load_midG (by rfl) 39 (.tmp 1) rfl S 0 rfl P _ (range_of XB.out) Tryz.underlying39 rfl HI.out ?_)
    | (go_at_call 16; refine (MY.out _ B0.out).mono ?_; rintro e v1 ⟨rfl, hb⟩; have B1 := Lib.hid (B0.out.trans (hb.mono (by have := WN.out; omega))); have X1 := Lib.hid (bl_keep XB.out (hb.block S (by have := WN.out; omega))); have W1 : Hid (S + 1 ≤ v1.heap.size) := Lib.hid (Nat.le_trans WN.out hb.size); clear hb)
    | fail)
  clear XB
  have k0 := CK.out _ X1.out
  go_upto_region 4 with (first
    | (go_at_call 31; refine (dNum 4 1 _ (by decide)).mono ?_; rintro e v2 ⟨A1, c1, rfl, ho, hb⟩; have OA : Hid (Ob (S + 1) v2 A1 1 c1 (digs 4 1)) := Lib.hid (ob_low ho W1.out); have BB := Lib.hid (B1.out.trans (hb.mono (by have := W1.out; omega))); have XB := Lib.hid (bl_keep X1.out (hb.block S (by have := W1.out; omega))); have WW : Hid (S + 1 ≤ v2.heap.size) := Lib.hid (Nat.le_trans W1.out hb.size); clear hb ho)
    | fail)
  clear k0 W1 X1 B1 WN MY HI
  have WN := Lib.hid WW.out
  have k0 := CK.out _ XB.out
  have RG := Lib.hid ((CF.out _ XB.out).cer)
  have IG := Lib.hid ((show (Tryz.prog.info? 32).map (·.size) = some (cerC t h).length from szL i32 (cerC_len h HT.out)))
  go_wp2_with (first
    | (refine wpList_load_midG (by rfl) 32 (.tmp 49) rfl S 9 rfl (cerC t h) _ RG.out Tryz.underlying32 rfl IG.out ?_)
    | (go_at_call 36; refine (dCerB t h _ HT.out (MM.out _ BB.out) HF.out.co HF.out.cs).mono ?_; rintro e v3 ⟨A2, c2, rfl, ho, hb⟩; have O1 := Lib.hid (ob_keep OA.out hb); have OM : Hid (Ob (S + 1) v3 A2 _ c2 (enc cerS t.cer ++ (encL outS t.couts ++ encL sgnS t.csigs))) := Lib.hid (ob_low ho WN.out); have B3 := Lib.hid (BB.out.trans (hb.mono (by have := WN.out; omega))); have W3 : Hid (S + 1 ≤ v3.heap.size) := Lib.hid (Nat.le_trans WN.out hb.size); clear hb ho)
    | (at_builtin; refine wpList_ap rfl (.tmp 48) (.tmp 51) rfl (S + 1) 1 _ _ _ rfl O1.out _ (9 + 8 + 8 + (1 + t.couts.length * 15) + (1 + t.csigs.length * 282)) _ _ rfl (ob_src OM.out) (ob_cap OM.out).2.2 (by omega) W3.out ?_; intro A3 c3 v4 ho hb _; have O3 := Lib.hid ho; have B4 := Lib.hid (B3.out.trans (hb.mono (by omega))); clear ho hb)
    | fail)
  go_ret2
  exact ⟨⟨A3, c3, congrArg (fun n => Ending.returned (.tuple #[.slice A3 n c3, .int .i64 0])) ((ob_len O3.out).symm.trans (congrArg List.length (by rw [EB.out]))), by rw [HS.out]; exact ob_eq (ob_low O3.out (by omega)) ((ob_len O3.out).symm.trans (congrArg List.length (by rw [EB.out]))) (by rw [EB.out])⟩, by rw [HS.out]; exact B4.out⟩
set_option maxHeartbeats 8000000 in
theorem dEnc5 (t : TxP) (h : TxH) (w : World) (ht : WfT t) (hm : Mem w t h) (hf : FewT t) (hc : mayT t = true) (hk : t.kind = 5) :
    Calls Tryz.prog 12 #[.agg (txC t h).toArray] w (DEnc t w) := by
  unfold DEnc
  rw [hc]
  obtain ⟨S, hS0⟩ : ∃ S, w.heap.size = S := ⟨_, rfl⟩
  have HS := Lib.hid hS0
  have XB : Hid (BL (w.alloc (Obj.cells (txC t h).toArray 39)) S (txC t h) 39) := by rw [← hS0]; exact heap_alloc_last w _
  have B0 : Hid (Below S w (w.alloc (Obj.cells (txC t h).toArray 39))) := by rw [← hS0]; exact (Below.refl _ w).alloc (Nat.le_refl _) _
  have WN : Hid (S + 1 ≤ (w.alloc (Obj.cells (txC t h).toArray 39)).heap.size) := Lib.hid (Nat.le_of_eq (by rw [World.size_alloc, hS0]))
  have MM : Hid (∀ w', Below S w w' → Mem w' t h) := Lib.hid fun w' hb => hm.keep fun q hq => hb.block q (by rw [← hS0]; exact hq)
  have HI : Hid ((Tryz.prog.info? 39).map (·.size) = some (txC t h).length) := szL i39 (txC_len h ht)
  have MY : Hid (∀ w', Below S w w' → Calls Tryz.prog 16 #[.agg (txC t h).toArray] w' fun e w'' => e = .returned (.bool true) ∧ Below w'.heap.size w' w'') := Lib.hid fun w' hb => by
    have := dMayTx t h w' ht (MM.out w' hb) hf
    rwa [hc] at this
  have HT := Lib.hid ht
  have HF := Lib.hid hf
  have CF : Hid (∀ w' : World, BL w' S (txC t h) 39 → TRng w' S t h) := Lib.hid fun w' hb => trng HT.out (range_of hb)
  have CK : Hid (∀ w' : World, BL w' S (txC t h) 39 → w'.cell? ⟨S, 0, none⟩ = some (.int .i64 5)) := Lib.hid fun w' hb => by have := (CF.out w' hb).kind; rwa [hk] at this
  have HK : Hid (t.kind = 5) := Lib.hid hk
  have EB := Lib.hid (show encT t = digs 5 1 ++ bodT t by unfold encT; rw [hk])
  rw [bod_5 hk] at EB
  clear ht hm hf hc hk
  generalize hP : txC t h = P at *
  clear hP
  go_enter Tryz.func12, Tryz.ntmps12
  go_upto_region 1 with (fail)
  generalize (w.alloc (Obj.cells P.toArray 39)) = v at *
  clear hS0
  go_upto_region 3 with (first
    | (refine wpList_load_midG (by rfl) 39 (.tmp 1) rfl S 0 rfl P _ (range_of XB.out) Tryz.underlying39 rfl HI.out ?_)
    | (go_at_call 16; refine (MY.out _ B0.out).mono ?_; rintro e v1 ⟨rfl, hb⟩; have B1 := Lib.hid (B0.out.trans (hb.mono (by have := WN.out; omega))); have X1 := Lib.hid (bl_keep XB.out (hb.block S (by have := WN.out; omega))); have W1 : Hid (S + 1 ≤ v1.heap.size) := Lib.hid (Nat.le_trans WN.out hb.size); clear hb)
    | fail)
  clear XB
  have k0 := CK.out _ X1.out
  go_upto_region 4 with (first
    | (go_at_call 31; refine (dNum 5 1 _ (by decide)).mono ?_; rintro e v2 ⟨A1, c1, rfl, ho, hb⟩; have OA : Hid (Ob (S + 1) v2 A1 1 c1 (digs 5 1)) := Lib.hid (ob_low ho W1.out); have BB := Lib.hid (B1.out.trans (hb.mono (by have := W1.out; omega))); have XB := Lib.hid (bl_keep X1.out (hb.block S (by have := W1.out; omega))); have WW : Hid (S + 1 ≤ v2.heap.size) := Lib.hid (Nat.le_trans W1.out hb.size); clear hb ho)
    | fail)
  clear k0 W1 X1 B1 WN MY HI
  have WN := Lib.hid WW.out
  have k0 := CK.out _ XB.out
  have RG := Lib.hid ((CF.out _ XB.out).cla)
  have IG := Lib.hid ((show (Tryz.prog.info? 37).map (·.size) = some (claC t).length from szL i37 (claC_len HT.out)))
  go_wp2_with (first
    | (refine wpList_load_midG (by rfl) 37 (.tmp 54) rfl S 30 rfl (claC t) _ RG.out Tryz.underlying37 rfl IG.out ?_)
    | (go_at_call 37; refine (dClaB t _ HT.out).mono ?_; rintro e v3 ⟨A2, c2, rfl, ho, hb⟩; have O1 := Lib.hid (ob_keep OA.out hb); have OM : Hid (Ob (S + 1) v3 A2 _ c2 (enc claS t.cla)) := Lib.hid (ob_low ho WN.out); have B3 := Lib.hid (BB.out.trans (hb.mono (by have := WN.out; omega))); have W3 : Hid (S + 1 ≤ v3.heap.size) := Lib.hid (Nat.le_trans WN.out hb.size); clear hb ho)
    | (at_builtin; refine wpList_ap rfl (.tmp 53) (.tmp 56) rfl (S + 1) 1 _ _ _ rfl O1.out _ (147) _ _ rfl (ob_src OM.out) (ob_cap OM.out).2.2 (by omega) W3.out ?_; intro A3 c3 v4 ho hb _; have O3 := Lib.hid ho; have B4 := Lib.hid (B3.out.trans (hb.mono (by omega))); clear ho hb)
    | fail)
  go_ret2
  exact ⟨⟨A3, c3, congrArg (fun n => Ending.returned (.tuple #[.slice A3 n c3, .int .i64 0])) ((ob_len O3.out).symm.trans (congrArg List.length (by rw [EB.out]))), by rw [HS.out]; exact ob_eq (ob_low O3.out (by omega)) ((ob_len O3.out).symm.trans (congrArg List.length (by rw [EB.out]))) (by rw [EB.out])⟩, by rw [HS.out]; exact B4.out⟩
theorem dEncT (t : TxP) (h : TxH) (w : World) (ht : WfT t) (hm : Mem w t h) (hf : FewT t) : Calls Tryz.prog 12 #[.agg (txC t h).toArray] w (DEnc t w) := by
  cases hc : mayT t
  · exact dEnc0 t h w ht hm hf hc
  have hf2 : mFld t = true := by
    have g := hc
    rw [may_zer, Bool.and_eq_true] at g
    exact g.2
  rcases fld_kind hf2 with e | e | e | e | e
  · exact dEnc1 t h w ht hm hf hc e
  · exact dEnc2 t h w ht hm hf hc e
  · exact dEnc3 t h w ht hm hf hc e
  · exact dEnc4 t h w ht hm hf hc e
  · exact dEnc5 t h w ht hm hf hc e
end Go.Proofs.YtffaddefnpkcgaaGreatDoor

