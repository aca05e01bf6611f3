/-
  The document's bytes of a certificate.
-/
import Derived.Test.YtffaddefnpkcgaaGreatDoorZ70
import Derived.Test.YtffaddefnpkcgaaGreatDoorZW
namespace Go.Proofs.YtffaddefnpkcgaaGreatDoor
open Go.RowKit
set_option maxRecDepth 100000
theorem sch_len_sgn : sgnS.length = 282 := by simp [sgnS, sigS]
attribute [local irreducible] bvals vals cel seg digs enc rwB rcd cerC encL
set_option maxHeartbeats 8000000 in
theorem dCerB (t : TxP) (h : TxH) (w : World) (ht : WfT t) (hm : Mem w t h) (h100 : t.couts.length ≤ 100) (hs100 : t.csigs.length ≤ 100) :
    Calls Tryz.prog 36 #[.agg (cerC t h).toArray] w fun e w' => ∃ A c, e = .returned (.slice A (9 + 8 + 8 + (1 + t.couts.length * 15) + (1 + t.csigs.length * 282)) c) ∧ Ob w.heap.size w' A (9 + 8 + 8 + (1 + t.couts.length * 15) + (1 + t.csigs.length * 282)) c (enc cerS t.cer ++ (encL outS t.couts ++ encL sgnS t.csigs)) ∧ Below w.heap.size w w' := by
  obtain ⟨S, hS0⟩ : ∃ S, w.heap.size = S := ⟨_, rfl⟩
  have HS := Lib.hid hS0
  have XB : Hid (BL (w.alloc (Obj.cells (cerC t h).toArray 32)) S (cerC t h) 32) := by rw [← hS0]; exact heap_alloc_last w _
  have B0 : Hid (Below S w (w.alloc (Obj.cells (cerC t h).toArray 32))) := by rw [← hS0]; exact (Below.refl _ w).alloc (Nat.le_refl _) _
  have BB : Hid (Below (S + 1) (w.alloc (Obj.cells (cerC t h).toArray 32)) (w.alloc (Obj.cells (cerC t h).toArray 32))) := Lib.hid (Below.refl _ _)
  have WN : Hid (S + 1 ≤ (w.alloc (Obj.cells (cerC t h).toArray 32)).heap.size) := Lib.hid (Nat.le_of_eq (by rw [World.size_alloc, hS0]))
  have LP : Hid (t.cer.length = 19) := okT_len ht.cer
  have CF : Hid (∀ w' : World, BL w' S (cerC t h) 32 → _) := Lib.hid fun w' hb => cer_at (range_of hb) LP.out
  simp only [Nat.zero_add] at CF
  obtain ⟨os, hos⟩ : ∃ rs, t.couts = rs := ⟨_, rfl⟩
  obtain ⟨lo, hlo⟩ : ∃ n, os.length = n := ⟨_, rfl⟩
  obtain ⟨Ao, hAo⟩ : ∃ A0, h.co.A = A0 := ⟨_, rfl⟩
  obtain ⟨co, hco⟩ : ∃ c0, h.co.c = c0 := ⟨_, rfl⟩
  obtain ⟨rs, hrs⟩ : ∃ rs, t.csigs = rs := ⟨_, rfl⟩
  obtain ⟨len, hlen⟩ : ∃ n, rs.length = n := ⟨_, rfl⟩
  obtain ⟨A0, hA0⟩ : ∃ A0, h.cs.A = A0 := ⟨_, rfl⟩
  obtain ⟨c0, hc0⟩ : ∃ c0, h.cs.c = c0 := ⟨_, rfl⟩
  have HR : Hid (LRow sgnS w A0 rs) := Lib.hid (by rw [← hrs, ← hA0]; exact hm.cs)
  have HA : Hid (AllR sgnS rs) := Lib.hid (by rw [← hrs]; exact ht.csigs)
  have hc : len ≤ c0 := by rw [← hlen, ← hrs, ← hc0]; exact hm.csc.le
  have HRo : Hid (LRow outS w Ao os) := Lib.hid (by rw [← hos, ← hAo]; exact hm.co)
  have HAo : Hid (AllR outS os) := Lib.hid (by rw [← hos]; exact ht.couts)
  have hcoo : lo ≤ co := by rw [← hlo, ← hos, ← hco]; exact hm.coc.le
  have HN := Lib.hid hlen
  have HE0 := Lib.hid (enc_cer LP.out)
  rw [hos, hlo] at h100
  rw [hrs, hlen] at hs100
  rw [hos, hlo, hrs, hlen]
  rw [hos, hlo, hAo, hco, hrs, hlen, hA0, hc0] at CF
  have DO : Hid (∀ w', Below S w w' → Calls Tryz.prog 32 #[.slice Ao lo co] w' fun e w'' => ∃ A c, e = .returned (.slice A (1 + lo * 15) c) ∧ Ob w'.heap.size w'' A (1 + lo * 15) c (encL outS os) ∧ Below w'.heap.size w' w'') := Lib.hid fun w' hb => dOutsB Ao lo co os w' hlo (HRo.out.keep fun q hq => hb.block q (by rw [← hS0]; exact hq)) HAo.out hcoo h100
  have h1 : IntKind.i64.wrap (len : Int) = (len : Int) := by rw [IntKind.wrap_i64]; omega
  generalize hp : t.cer = p at *
  clear ht hm hrs hlen hA0 hc0 hos hlo hAo hco hp HRo HAo hcoo
  generalize cerC t h = P at *
  go_enter Tryz.func36, Tryz.ntmps36
  go_upto_region 1 with (fail)
  generalize (w.alloc (Obj.cells P.toArray 32)) = v at *
  clear hS0
  have XV := Lib.hid XB.out
  have WV := Lib.hid WN.out
  rename_i K hK
  have XX : Hid (Below (S + 1) v v.drew) := (Below.refl _ _).drew
  refine wp_region_held_drew (S := (fun w' : World => ∀ q, q < (S + 1) → w'.heap[q]? = v.heap[q]?)) (by kernel_rfl) (by exact fun _ _ => rfl) (fun hHeld => ?_)
  refine tk (i := 0) (v := ?_) rfl (Or.inl ⟨by rfl, ?_⟩) (by assumption) ?_
  rotate_left
  · (intro w hSw; (try dsimp only at hSw); go_simp; try with_reducible rfl)
  simp only [Act.put, ly1, ly3, ly4, ly5, ly6]
  refine tk (i := 1) (v := ?_) rfl (Or.inl ⟨by rfl, ?_⟩) (by assumption) ?_
  rotate_left
  · (intro w hSw; (try dsimp only at hSw); have c1 := CF.out w ((hSw S (by omega)).trans XB.out); obtain ⟨c10, c11, c12, _⟩ := c1; go_simp; try with_reducible rfl)
  simp only [Act.put, ly1, ly2, ly3, ly4, ly5, ly6]
  refine tk (i := 3) (v := ?_) rfl (Or.inl ⟨by rfl, ?_⟩) (by assumption) ?_
  rotate_left
  · (intro w hSw; (try dsimp only at hSw); go_simp; try with_reducible rfl)
  simp only [Act.put, ly1, ly2, ly3, ly4, ly5, ly6]
  refine tk (i := 4) (v := ?_) rfl (Or.inl ⟨by rfl, ?_⟩) (by assumption) ?_
  rotate_left
  · (intro w hSw; (try dsimp only at hSw); have c1 := CF.out w ((hSw S (by omega)).trans XB.out); obtain ⟨c10, c11, c12, _⟩ := c1; go_simp; try with_reducible rfl)
  simp only [Act.put, ly1, ly2, ly3, ly4, ly5, ly6]
  refine tk (i := 7) (v := ?_) rfl (Or.inl ⟨by rfl, ?_⟩) (by assumption) ?_
  rotate_left
  · (intro w hSw; (try dsimp only at hSw); go_simp; try with_reducible rfl)
  simp only [Act.put, ly1, ly2, ly3, ly4, ly5, ly6]
  refine tk (i := 8) (v := ?_) rfl (Or.inl ⟨by rfl, ?_⟩) (by assumption) ?_
  rotate_left
  · (intro w hSw; (try dsimp only at hSw); have c1 := CF.out w ((hSw S (by omega)).trans XB.out); obtain ⟨c10, c11, c12, _⟩ := c1; go_simp; try with_reducible rfl)
  simp only [Act.put, ly1, ly2, ly3, ly4, ly5, ly6]
  refine wpAnyH_ready (rs := [2]) (by kernel_rfl) (by simp) ?_
  refine AllReadyH.cons rfl (fun K hK => ?_) AllReadyH.nil
  go_simp
  go_at_call 31
  refine (dNum (cel p 0) 1 _ (by decide)).mono ?_
  rintro e wa1 ⟨A1, c1, rfl, hob, hba⟩
  have XN : Hid (Below (S + 1) v wa1) := XX.out.trans (hba.mono (by have := XX.out.size; have := WN.out; omega))
  have O1 : Hid (Ob (S + 1) wa1 A1 _ c1 (digs (cel p 0) 1)) := Lib.hid (ob_low hob (by have := XX.out.size; have := WN.out; omega))
  clear XX hba hob hHeld
  have XX := XN
  clear XN
  (try go_wp2_with fail)
  refine hK.out _ _ (by exact fun q hq => XX.out.block q hq) (fun hHeld => ?_)
  clear hK K
  refine wpAnyH_ready (rs := [5]) (by kernel_rfl) (by simp) ?_
  refine AllReadyH.cons rfl (fun K hK => ?_) AllReadyH.nil
  go_simp
  go_at_call 31
  refine (dNum (cel p 1) 4 _ (by decide)).mono ?_
  rintro e wa2 ⟨AM, cM, rfl, hob, hba⟩
  have XN : Hid (Below (S + 1) v wa2) := XX.out.trans (hba.mono (by have := XX.out.size; have := WN.out; omega))
  replace O1 := Lib.hid (ob_keep O1.out hba)
  have OM : Hid (Ob (S + 1) wa2 AM _ cM (digs (cel p 1) 4)) := Lib.hid (ob_low hob (by have := XX.out.size; have := WN.out; omega))
  clear XX hba hob hHeld
  have XX := XN
  clear XN
  (try go_wp2_with fail)
  refine hK.out _ _ (by exact fun q hq => XX.out.block q hq) (fun hHeld => ?_)
  clear hK K
  refine wpAnyH_ready (rs := [6]) (by kernel_rfl) (by simp) ?_
  refine AllReadyH.cons rfl (fun K hK => ?_) AllReadyH.nil
  refine step_ap rfl (.tmp 7) (.tmp 10) rfl ((S + 1)) (1) _ _ _ rfl O1.out _ (4) _ _ rfl (ob_src OM.out) ((ob_cap OM.out).2.2) (by omega) (by have := XX.out.size; have := WN.out; omega) ?_
  intro A2 c2 wa3 hob hba hot
  have XN : Hid (Below (S + 1) v wa3) := XX.out.trans (hba.mono (by omega))
  have O2 : Hid (Ob (S + 1) wa3 A2 _ c2 (digs (cel p 0) 1 ++ digs (cel p 1) 4)) := Lib.hid (hob)
  clear XX hba hob hot hHeld
  have XX := XN
  clear XN
  refine hK.out _ _ (by exact fun q hq => XX.out.block q hq) (fun hHeld => ?_)
  clear hK K
  refine wpAnyH_ready (rs := [9]) (by kernel_rfl) (by simp) ?_
  refine AllReadyH.cons rfl (fun K hK => ?_) AllReadyH.nil
  go_simp
  go_at_call 31
  refine (dNum (cel p 2) 4 _ (by decide)).mono ?_
  rintro e wa4 ⟨AP, cP, rfl, hob, hba⟩
  have XN : Hid (Below (S + 1) v wa4) := XX.out.trans (hba.mono (by have := XX.out.size; have := WN.out; omega))
  replace O2 := Lib.hid (ob_keep O2.out hba)
  have OP : Hid (Ob (S + 1) wa4 AP _ cP (digs (cel p 2) 4)) := Lib.hid (ob_low hob (by have := XX.out.size; have := WN.out; omega))
  clear XX hba hob hHeld
  have XX := XN
  clear XN
  (try go_wp2_with fail)
  refine hK.out _ _ (by exact fun q hq => XX.out.block q hq) (fun hHeld => ?_)
  clear hK K
  refine wpAnyH_ready (rs := [10]) (by kernel_rfl) (by simp) ?_
  refine AllReadyH.cons rfl (fun K hK => ?_) AllReadyH.nil
  refine step_ap rfl (.tmp 11) (.tmp 14) rfl ((S + 1)) (1 + 4) _ _ _ rfl O2.out _ (4) _ _ rfl (ob_src OP.out) ((ob_cap OP.out).2.2) (by omega) (by have := XX.out.size; have := WN.out; omega) ?_
  intro A3 c3 wa5 hob hba hot
  have XN : Hid (Below (S + 1) v wa5) := XX.out.trans (hba.mono (by omega))
  have O3 : Hid (Ob (S + 1) wa5 A3 _ c3 (digs (cel p 0) 1 ++ digs (cel p 1) 4 ++ digs (cel p 2) 4)) := Lib.hid (hob)
  clear XX hba hob hot hHeld
  have XX := XN
  clear XN
  refine hK.out _ _ (by exact fun q hq => XX.out.block q hq) (fun hHeld => ?_)
  clear hK K
  refine tk (i := 11) (v := ?_) rfl (Or.inl ⟨by rfl, ?_⟩) (by assumption) ?_
  rotate_left
  · (intro w hSw; (try dsimp only at hSw); go_simp; try with_reducible rfl)
  simp only [Act.put, ly1, ly2, ly3, ly4, ly5, ly6]
  refine wpAnyH_done (by kernel_rfl) ?_ _
  show K _ _
  refine hK _ _ ?_
  clear hK K hHeld
  have OA : Hid (Ob (S + 1) wa5 A3 9 c3 (digs (cel p 0) 1 ++ digs (cel p 1) 4 ++ digs (cel p 2) 4)) := Lib.hid O3.out
  clear O3
  simp only [Nat.reduceAdd]
  replace BB := Lib.hid (BB.out.trans XX.out)
  replace WN := Lib.hid (Nat.le_trans WN.out XX.out.size)
  replace XB := Lib.hid (bl_keep XB.out (XX.out.block S (by omega)))
  clear XX
  go_wp2_with fail
  rename_i K hK
  have XX : Hid (Below (S + 1) wa5 wa5.drew) := (Below.refl _ _).drew
  replace OA := Lib.hid (ob_drew OA.out)
  refine wp_region_held_drew (S := (fun w' : World => ∀ q, q < (S + 1) → w'.heap[q]? = wa5.heap[q]?)) (by kernel_rfl) (by exact fun _ _ => rfl) (fun hHeld => ?_)
  refine tk (i := 0) (v := ?_) rfl (Or.inl ⟨by rfl, ?_⟩) (by assumption) ?_
  rotate_left
  · (intro w hSw; (try dsimp only at hSw); go_simp; try with_reducible rfl)
  simp only [Act.put, ly1, ly3, ly4, ly5, ly6]
  refine tk (i := 1) (v := ?_) rfl (Or.inl ⟨by rfl, ?_⟩) (by assumption) ?_
  rotate_left
  · (intro w hSw; (try dsimp only at hSw); go_simp; try with_reducible rfl)
  simp only [Act.put, ly1, ly2, ly3, ly4, ly5, ly6]
  refine tk (i := 2) (v := ?_) rfl (Or.inl ⟨by rfl, ?_⟩) (by assumption) ?_
  rotate_left
  · (intro w hSw; (try dsimp only at hSw); go_simp; try with_reducible rfl)
  simp only [Act.put, ly1, ly2, ly3, ly4, ly5, ly6]
  refine tk (i := 4) (v := ?_) rfl (Or.inl ⟨by rfl, ?_⟩) (by assumption) ?_
  rotate_left
  · (intro w hSw; (try dsimp only at hSw); go_simp; try with_reducible rfl)
  simp only [Act.put, ly1, ly2, ly3, ly4, ly5, ly6]
  refine tk (i := 5) (v := ?_) rfl (Or.inl ⟨by rfl, ?_⟩) (by assumption) ?_
  rotate_left
  · (intro w hSw; (try dsimp only at hSw); go_simp; try with_reducible rfl)
  simp only [Act.put, ly1, ly2, ly3, ly4, ly5, ly6]
  refine tk (i := 7) (v := ?_) rfl (Or.inl ⟨by rfl, ?_⟩) (by assumption) ?_
  rotate_left
  · (intro w hSw; (try dsimp only at hSw); go_simp; try with_reducible rfl)
  simp only [Act.put, ly1, ly2, ly3, ly4, ly5, ly6]
  refine tk (i := 8) (v := ?_) rfl (Or.inl ⟨by rfl, ?_⟩) (by assumption) ?_
  rotate_left
  · (intro w hSw; (try dsimp only at hSw); have c1 := CF.out w ((hSw S (by omega)).trans XB.out); obtain ⟨c10, c11, c12, c13, c14, c15, _⟩ := c1; go_simp; try with_reducible rfl)
  simp only [Act.put, ly1, ly2, ly3, ly4, ly5, ly6]
  refine wpAnyH_ready (rs := [3]) (by kernel_rfl) (by simp) ?_
  refine AllReadyH.cons rfl (fun K hK => ?_) AllReadyH.nil
  refine step_ap rfl (.tmp 16) (.tmp 18) rfl ((S + 1)) (9) _ _ _ rfl OA.out _ (8) _ _ rfl (src_all (CF.out _ ((XX.out.block S (by omega)).trans XB.out)).2.2.2.1 (seg_len (by rw [LP.out]; decide))) (fun h => by cases h) (by omega) (by have := XX.out.size; have := WN.out; omega) ?_
  intro A4 c4 wb1 hob hba hot
  have XN : Hid (Below (S + 1) wa5 wb1) := XX.out.trans (hba.mono (by omega))
  have O4 : Hid (Ob (S + 1) wb1 A4 _ c4 (digs (cel p 0) 1 ++ digs (cel p 1) 4 ++ digs (cel p 2) 4 ++ seg p 3 8)) := Lib.hid (hob)
  clear XX hba hob hot hHeld
  have XX := XN
  clear XN
  refine hK.out _ _ (by exact fun q hq => XX.out.block q hq) (fun hHeld => ?_)
  clear hK K
  refine wpAnyH_ready (rs := [6]) (by kernel_rfl) (by simp) ?_
  refine AllReadyH.cons rfl (fun K hK => ?_) AllReadyH.nil
  refine step_ap rfl (.tmp 19) (.tmp 21) rfl ((S + 1)) (9 + 8) _ _ _ rfl O4.out _ (8) _ _ rfl (src_all (CF.out _ ((XX.out.block S (by omega)).trans XB.out)).2.2.2.2.1 (seg_len (by rw [LP.out]; decide))) (fun h => by cases h) (by omega) (by have := XX.out.size; have := WN.out; omega) ?_
  intro A5 c5 wb2 hob hba hot
  have XN : Hid (Below (S + 1) wa5 wb2) := XX.out.trans (hba.mono (by omega))
  have O5 : Hid (Ob (S + 1) wb2 A5 _ c5 (digs (cel p 0) 1 ++ digs (cel p 1) 4 ++ digs (cel p 2) 4 ++ seg p 3 8 ++ seg p 11 8)) := Lib.hid (hob)
  clear XX hba hob hot hHeld
  have XX := XN
  clear XN
  refine hK.out _ _ (by exact fun q hq => XX.out.block q hq) (fun hHeld => ?_)
  clear hK K
  refine wpAnyH_ready (rs := [9]) (by kernel_rfl) (by simp) ?_
  refine AllReadyH.cons rfl (fun K hK => ?_) AllReadyH.nil
  go_simp
  go_at_call 32
  refine (DO.out _ (B0.out.trans ((BB.out.trans XX.out).mono (by omega)))).mono ?_
  rintro e wb3 ⟨AP, cP, rfl, hob, hba⟩
  have XN : Hid (Below (S + 1) wa5 wb3) := XX.out.trans (hba.mono (by have := XX.out.size; have := WN.out; omega))
  replace O5 := Lib.hid (ob_keep O5.out hba)
  have OP : Hid (Ob (S + 1) wb3 AP _ cP (encL outS os)) := Lib.hid (ob_low hob (by have := XX.out.size; have := WN.out; omega))
  clear XX hba hob hHeld
  have XX := XN
  clear XN
  (try go_wp2_with fail)
  refine hK.out _ _ (by exact fun q hq => XX.out.block q hq) (fun hHeld => ?_)
  clear hK K
  refine wpAnyH_ready (rs := [10]) (by kernel_rfl) (by simp) ?_
  refine AllReadyH.cons rfl (fun K hK => ?_) AllReadyH.nil
  refine step_ap rfl (.tmp 22) (.tmp 25) rfl ((S + 1)) (9 + 8 + 8) _ _ _ rfl O5.out _ (1 + lo * 15) _ _ rfl (ob_src OP.out) ((ob_cap OP.out).2.2) (by omega) (by have := XX.out.size; have := WN.out; omega) ?_
  intro A6 c6 wb4 hob hba hot
  have XN : Hid (Below (S + 1) wa5 wb4) := XX.out.trans (hba.mono (by omega))
  have O6 : Hid (Ob (S + 1) wb4 A6 _ c6 (digs (cel p 0) 1 ++ digs (cel p 1) 4 ++ digs (cel p 2) 4 ++ seg p 3 8 ++ seg p 11 8 ++ encL outS os)) := Lib.hid (hob)
  clear XX hba hob hot hHeld
  have XX := XN
  clear XN
  refine hK.out _ _ (by exact fun q hq => XX.out.block q hq) (fun hHeld => ?_)
  clear hK K
  refine tk (i := 11) (v := ?_) rfl (Or.inl ⟨by rfl, ?_⟩) (by assumption) ?_
  rotate_left
  · (intro w hSw; (try dsimp only at hSw); go_simp; try with_reducible rfl)
  simp only [Act.put, ly1, ly2, ly3, ly4, ly5, ly6]
  refine wpAnyH_done (by kernel_rfl) ?_ _
  show K _ _
  refine hK _ _ ?_
  clear hK K hHeld
  have OB : Hid (Ob (S + 1) wb4 A6 (25 + (1 + lo * 15)) c6 (enc cerS p ++ encL outS os)) := Lib.hid (ob_eq O6.out (by omega) (by rw [HE0.out]))
  clear O6
  replace BB := Lib.hid (BB.out.trans XX.out)
  replace WN := Lib.hid (Nat.le_trans WN.out XX.out.size)
  replace XB := Lib.hid (bl_keep XB.out (XX.out.block S (by omega)))
  clear XX
  have cs := (CF.out _ XB.out).2.2.2.2.2.2
  go_upto_region 4 with (first
    | (go_at_call 31; refine (dNum (len : Int) 1 _ (by decide)).mono ?_; rintro e w1 ⟨A7, c7, rfl, ho, hb⟩; have O1 := Lib.hid (ob_keep OB.out hb); have O7 : Hid (Ob (S + 1) w1 A7 1 c7 (digs (len : Int) 1)) := Lib.hid (ob_low ho WN.out); have B1 : Hid (Below (S + 1) wb4 w1) := Lib.hid (hb.mono WN.out); clear ho hb)
    | (at_builtin; refine wpList_ap rfl (.tmp 27) (.tmp 31) rfl (S + 1) _ _ _ _ rfl O1.out _ 1 _ _ rfl (ob_src O7.out) (ob_cap O7.out).2.2 (by omega) (by have := B1.out.size; have := WN.out; omega) ?_; intro A8 c8 w8 ho hb _; have XX := Lib.hid (B1.out.trans hb); have OC : Hid (Ob (S + 1) w8 A8 _ c8 (enc cerS p ++ encL outS os ++ rwB sgnS rs 0)) := Lib.hid (by rw [rwB_0, HN.out]; exact ho); clear ho hb)
    | fail)
  replace BB := Lib.hid (BB.out.trans XX.out)
  replace WN := Lib.hid (Nat.le_trans WN.out XX.out.size)
  replace XB := Lib.hid (bl_keep XB.out (XX.out.block S (by omega)))
  clear XX
  clear cs B1 O1 O7 OB
  generalize w8 = w9 at *
  have HX := Lib.hid OC.out
  have HB := Lib.hid BB.out
  clear OC
  go_wp2
  go_loopw [3, 4] (fun x i wr => ∃ (k : Nat) (A : Option Addr) (c : Nat), k ≤ len ∧ i = .int .i64 k ∧ x = .slice A (25 + (1 + lo * 15) + (1 + k * 282)) c ∧ Ob (S + 1) wr A (25 + (1 + lo * 15) + (1 + k * 282)) c (enc cerS p ++ encL outS os ++ rwB sgnS rs k) ∧ Below (S + 1) v wr) (fun _ i _ => len - (intOf i).toNat)
  case atStart => exact ⟨0, A8, c8, by omega, rfl, sl_eq (by omega), ob_eq HX.out (by omega) rfl, HB.out⟩
  case round =>
    clear XB WN HX HB BB DO
    obtain ⟨k, A, c, hk, rfl, rfl, hown, hbel⟩ := hrel
    have O2 := Lib.hid hown
    have BB := Lib.hid hbel
    have XB := Lib.hid (bl_keep XV.out (hbel.block S (by omega)))
    have WN : Hid (S + 1 ≤ wr.heap.size) := Lib.hid (Nat.le_trans WV.out hbel.size)
    have kc := (CF.out wr XB.out).2.2.2.2.2.2
    clear hown hbel
    by_cases hlt : k < len
    · have h2 : (k : Int) < (len : Int) := by omega
      have h3 : IntKind.i64.wrap (k : Int) = (k : Int) := by rw [IntKind.wrap_i64]; omega
      obtain ⟨b, o, rfl, hrow⟩ := lrow_at HR.out (by rw [HN.out]; omega)
      have hk2 := hrow k (by rw [HN.out]; exact hlt)
      rw [show sgnS.length = 282 from sch_len_sgn] at hk2
      have hl9 : (rcd rs k).length = 282 := (lrow_len HA.out (show k < rs.length by rw [HN.out]; exact hlt)).trans sch_len_sgn
      have hbS : b < S := by
        rw [← HS.out]
        exact World.block_lt_of_cell? w _ (sgn_at hk2 hl9).1
      have RK : Hid (∀ w' : World, (∀ q, q < S + 1 → w'.heap[q]? = wr.heap[q]?) → w'.rangeAt b (o + k * 282) (vals sgnS (rcd rs k))) := Lib.hid fun w' h => range_keep1 hk2 ((h b (by omega)).trans ((BB.out.block b (by omega)).trans (B0.out.block b hbS)))
      have HE := Lib.hid (rwB_next (S := sgnS) (show k < rs.length by rw [HN.out]; exact hlt))
      rw [enc_sgn hl9] at HE
      have HL9 := Lib.hid hl9
      obtain ⟨r, hr⟩ : ∃ r, rcd rs k = r := ⟨_, rfl⟩
      rw [hr] at RK HE HL9
      clear hrow hk2 hl9 hr hbS
      have L7 : Hid ((seg r 1 281).length = 281) := Lib.hid (seg_len (by rw [HL9.out]; decide))
      have I7 : Hid ((Tryz.prog.info? 58).map (·.size) = some (vals sigS (seg r 1 281)).length) := szL i58 (dsig_len L7.out)
      go_wp2_with fail
      rename_i K hK
      clear kc
      have XX : Hid (Below (S + 1) wr wr.drew) := (Below.refl _ _).drew
      replace O2 := Lib.hid (ob_drew O2.out)
      refine wp_region_held_drew (S := (fun w' : World => ∀ q, q < (S + 1) → w'.heap[q]? = wr.heap[q]?)) (by kernel_rfl) (by exact fun _ _ => rfl) (fun hHeld => ?_)
      refine tk (i := 0) (v := ?_) rfl (Or.inl ⟨by rfl, ?_⟩) (by assumption) ?_
      rotate_left
      · (intro w hSw; (try dsimp only at hSw); go_simp; try with_reducible rfl)
      simp only [Act.put, ly1, ly3, ly4, ly5, ly6]
      refine tk (i := 1) (v := ?_) rfl (Or.inl ⟨by rfl, ?_⟩) (by assumption) ?_
      rotate_left
      · (intro w hSw; (try dsimp only at hSw); go_simp; try with_reducible rfl)
      simp only [Act.put, ly1, ly2, ly3, ly4, ly5, ly6]
      refine tk (i := 2) (v := ?_) rfl (Or.inl ⟨by rfl, ?_⟩) (by assumption) ?_
      rotate_left
      · (intro w hSw; (try dsimp only at hSw); have c1 := (CF.out w ((hSw S (by omega)).trans XB.out)).2.2.2.2.2.2; go_simp; try with_reducible rfl)
      simp only [Act.put, ly1, ly2, ly3, ly4, ly5, ly6]
      refine tk (i := 3) (v := ?_) rfl (Or.inl ⟨by rfl, ?_⟩) (by assumption) ?_
      rotate_left
      · (intro w hSw; (try dsimp only at hSw); go_simp; try with_reducible rfl)
      simp only [Act.put, ly1, ly2, ly3, ly4, ly5, ly6]
      refine tk (i := 4) (v := ?_) rfl (Or.inl ⟨by rfl, ?_⟩) (by assumption) ?_
      rotate_left
      · (intro w hSw; (try dsimp only at hSw); go_simp; try with_reducible rfl)
      simp only [Act.put, ly1, ly2, ly3, ly4, ly5, ly6]
      refine tk (i := 5) (v := ?_) rfl (Or.inl ⟨by rfl, ?_⟩) (by assumption) ?_
      rotate_left
      · (intro w hSw; (try dsimp only at hSw); go_simp; try with_reducible rfl)
      simp only [Act.put, ly1, ly2, ly3, ly4, ly5, ly6]
      refine tk (i := 6) (v := ?_) rfl (Or.inl ⟨by rfl, ?_⟩) (by assumption) ?_
      rotate_left
      · (intro w hSw; (try dsimp only at hSw); have c1 := (sgn_at (RK.out w hSw) HL9.out).1; go_simp; try with_reducible rfl)
      simp only [Act.put, ly1, ly2, ly3, ly4, ly5, ly6]
      refine tk (i := 9) (v := ?_) rfl (Or.inl ⟨by rfl, ?_⟩) (by assumption) ?_
      rotate_left
      · (intro w hSw; (try dsimp only at hSw); go_simp; try with_reducible rfl)
      simp only [Act.put, ly1, ly2, ly3, ly4, ly5, ly6]
      refine tk (i := 10) (v := ?_) rfl (Or.inl ⟨by rfl, ?_⟩) (by assumption) ?_
      rotate_left
      · (intro w hSw; (try dsimp only at hSw); have c1 := (CF.out w ((hSw S (by omega)).trans XB.out)).2.2.2.2.2.2; go_simp; try with_reducible rfl)
      simp only [Act.put, ly1, ly2, ly3, ly4, ly5, ly6]
      refine tk (i := 11) (v := ?_) rfl (Or.inl ⟨by rfl, ?_⟩) (by assumption) ?_
      rotate_left
      · (intro w hSw; (try dsimp only at hSw); go_simp; try with_reducible rfl)
      simp only [Act.put, ly1, ly2, ly3, ly4, ly5, ly6]
      refine tk (i := 12) (v := ?_) rfl (Or.inl ⟨by rfl, ?_⟩) (by assumption) ?_
      rotate_left
      · (intro w hSw; (try dsimp only at hSw); go_simp; try with_reducible rfl)
      simp only [Act.put, ly1, ly2, ly3, ly4, ly5, ly6]
      refine tk (i := 13) (v := ?_) rfl (Or.inl ⟨by rfl, ?_⟩) (by assumption) ?_
      rotate_left
      · (intro w hSw; (try dsimp only at hSw); go_simp; try with_reducible rfl)
      simp only [Act.put, ly1, ly2, ly3, ly4, ly5, ly6]
      refine tk (i := 14) rfl (yieldsIf_load_mid (by rfl) 58 (.tmp 53) rfl (b) (o + k * 282 + 1) rfl (vals sigS (seg r 1 281)) _ (fun w h => (sgn_at (RK.out w h) HL9.out).2) Tryz.underlying58 rfl I7.out) (by assumption) ?_
      simp only [Act.put, ly1, ly2, ly3, ly4, ly5, ly6]
      refine wpAnyH_ready (rs := [7]) (by kernel_rfl) (by simp) ?_
      refine AllReadyH.cons rfl (fun K hK => ?_) AllReadyH.nil
      go_simp
      go_at_call 31
      refine (dNum (cel r 0) 1 _ (by decide)).mono ?_
      rintro e wd1 ⟨AM, cM, rfl, hob, hba⟩
      have XN : Hid (Below (S + 1) wr wd1) := XX.out.trans (hba.mono (by have := XX.out.size; have := WN.out; omega))
      replace O2 := Lib.hid (ob_keep O2.out hba)
      have OM : Hid (Ob (S + 1) wd1 AM _ cM (digs (cel r 0) 1)) := Lib.hid (ob_low hob (by have := XX.out.size; have := WN.out; omega))
      clear XX hba hob hHeld
      have XX := XN
      clear XN
      (try go_wp2_with fail)
      refine hK.out _ _ (by exact fun q hq => XX.out.block q hq) (fun hHeld => ?_)
      clear hK K
      refine wpAnyH_ready (rs := [8]) (by kernel_rfl) (by simp) ?_
      refine AllReadyH.cons rfl (fun K hK => ?_) AllReadyH.nil
      refine step_ap rfl (.tmp 40) (.tmp 47) rfl ((S + 1)) (25 + (1 + lo * 15) + (1 + k * 282)) _ _ _ rfl O2.out _ (1) _ _ rfl (ob_src OM.out) ((ob_cap OM.out).2.2) (by omega) (by have := XX.out.size; have := WN.out; omega) ?_
      intro A3 c3 wd2 hob hba hot
      have XN : Hid (Below (S + 1) wr wd2) := XX.out.trans (hba.mono (by omega))
      have O3 : Hid (Ob (S + 1) wd2 A3 _ c3 (enc cerS p ++ encL outS os ++ rwB sgnS rs k ++ digs (cel r 0) 1)) := Lib.hid (hob)
      clear XX hba hob hot hHeld
      have XX := XN
      clear XN
      refine hK.out _ _ (by exact fun q hq => XX.out.block q hq) (fun hHeld => ?_)
      clear hK K
      refine wpAnyH_ready (rs := [15]) (by kernel_rfl) (by simp) ?_
      refine AllReadyH.cons rfl (fun K hK => ?_) AllReadyH.nil
      go_simp
      go_at_call 70
      refine (dSig (seg r 1 281) _ L7.out).mono ?_
      rintro e wd3 ⟨AP, cP, rfl, hob, hba⟩
      have XN : Hid (Below (S + 1) wr wd3) := XX.out.trans (hba.mono (by have := XX.out.size; have := WN.out; omega))
      replace O3 := Lib.hid (ob_keep O3.out hba)
      have OP : Hid (Ob (S + 1) wd3 AP _ cP (enc sigS (seg r 1 281))) := Lib.hid (ob_low hob (by have := XX.out.size; have := WN.out; omega))
      clear XX hba hob hHeld
      have XX := XN
      clear XN
      (try go_wp2_with fail)
      refine hK.out _ _ (by exact fun q hq => XX.out.block q hq) (fun hHeld => ?_)
      clear hK K
      refine wpAnyH_ready (rs := [16]) (by kernel_rfl) (by simp) ?_
      refine AllReadyH.cons rfl (fun K hK => ?_) AllReadyH.nil
      refine step_ap rfl (.tmp 48) (.tmp 55) rfl ((S + 1)) (25 + (1 + lo * 15) + (1 + k * 282) + 1) _ _ _ rfl O3.out _ (281) _ _ rfl (ob_src OP.out) ((ob_cap OP.out).2.2) (by omega) (by have := XX.out.size; have := WN.out; omega) ?_
      intro A8 c8 wd4 hob hba hot
      have XN : Hid (Below (S + 1) wr wd4) := XX.out.trans (hba.mono (by omega))
      have O8 : Hid (Ob (S + 1) wd4 A8 _ c8 (enc cerS p ++ encL outS os ++ rwB sgnS rs k ++ digs (cel r 0) 1 ++ enc sigS (seg r 1 281))) := Lib.hid (hob)
      clear XX hba hob hot hHeld
      have XX := XN
      clear XN
      refine hK.out _ _ (by exact fun q hq => XX.out.block q hq) (fun hHeld => ?_)
      clear hK K
      refine tk (i := 17) (v := ?_) rfl (Or.inl ⟨by rfl, ?_⟩) (by assumption) ?_
      rotate_left
      · (intro w hSw; (try dsimp only at hSw); go_simp; try with_reducible rfl)
      simp only [Act.put, ly1, ly2, ly3, ly4, ly5, ly6]
      refine wpAnyH_done (by kernel_rfl) ?_ _
      show K _ _
      refine hK _ _ ?_
      clear hK K hHeld
      go_wp2
      go_roundw
      case rel => exact ⟨k + 1, A8, c8, by omega, by go_num, sl_eq (by omega), ob_eq O8.out (by omega) (by rw [HE.out]; simp only [List.append_assoc]), BB.out.trans XX.out⟩
      case measure => simp [intOf]; omega
    · obtain rfl : k = len := by omega
      go_wp2
      go_ret
      exact ⟨A, c, congrArg _ (sl_eq (by omega)), by rw [HS.out, ← rwB_all sgnS rs, HN.out, ← List.append_assoc]; exact ob_eq (ob_low O2.out (by omega)) (by omega) rfl, by rw [HS.out]; exact B0.out.trans (BB.out.mono (by omega))⟩
end Go.Proofs.YtffaddefnpkcgaaGreatDoor
namespace Go.Proofs.YtffaddefnpkcgaaGreatDoor
open Go.RowKit
set_option maxRecDepth 100000
def claH (p : List Int) : List Int := (((digs (cel p 0) 1 ++ digs (cel p 1) 2) ++ seg p 2 8) ++ digs (cel p 10) 7) ++ digs (cel p 11) 1
theorem enc_claH {p : List Int} (h : p.length = 140) : enc claS p = claH p ++ seg p 12 128 := by rw [enc_cla h, claH]
attribute [local irreducible] bvals vals cel seg digs enc claC claH
set_option maxHeartbeats 8000000 in
theorem dClaB (t : TxP) (w : World) (ht : WfT t) :
    Calls Tryz.prog 37 #[.agg (claC t).toArray] w fun e w' => ∃ A c, e = .returned (.slice A 147 c) ∧ Ob w.heap.size w' A 147 c (enc claS t.cla) ∧ Below w.heap.size w w' := by
  obtain ⟨S, hS0⟩ : ∃ S, w.heap.size = S := ⟨_, rfl⟩
  have HS := Lib.hid hS0
  have XB : Hid (BL (w.alloc (Obj.cells (claC t).toArray 37)) S (claC t) 37) := by rw [← hS0]; exact heap_alloc_last w _
  have B0 : Hid (Below S w (w.alloc (Obj.cells (claC t).toArray 37))) := by rw [← hS0]; exact (Below.refl _ w).alloc (Nat.le_refl _) _
  have BB : Hid (Below (S + 1) (w.alloc (Obj.cells (claC t).toArray 37)) (w.alloc (Obj.cells (claC t).toArray 37))) := Lib.hid (Below.refl _ _)
  have WN : Hid (S + 1 ≤ (w.alloc (Obj.cells (claC t).toArray 37)).heap.size) := Lib.hid (Nat.le_of_eq (by rw [World.size_alloc, hS0]))
  have LP : Hid (t.cla.length = 140) := (okT_len ht.cla).trans (by simp [claS, hS])
  have CF : Hid (∀ w' : World, BL w' S (claC t) 37 → _) := Lib.hid fun w' hb => cla_at (by have := range_of hb; unfold claC at this; exact this) LP.out
  simp only [Nat.zero_add] at CF
  have HE0 := Lib.hid (enc_claH LP.out)
  generalize hp : t.cla = p at *
  clear ht hp
  generalize claC t = P at *
  go_enter Tryz.func37, Tryz.ntmps37
  go_upto_region 1 with (fail)
  generalize (w.alloc (Obj.cells P.toArray 37)) = v at *
  clear hS0
  have XV := Lib.hid XB.out
  have WV := Lib.hid WN.out
  rename_i K hK
  have XX : Hid (Below (S + 1) v v.drew) := (Below.refl _ _).drew
  refine wp_region_held_drew (S := (fun w' : World => ∀ q, q < (S + 1) → w'.heap[q]? = v.heap[q]?)) (by kernel_rfl) (by exact fun _ _ => rfl) (fun hHeld => ?_)
  refine tk (i := 0) (v := ?_) rfl (Or.inl ⟨by rfl, ?_⟩) (by assumption) ?_
  rotate_left
  · (intro w hSw; (try dsimp only at hSw); go_simp; try with_reducible rfl)
  simp only [Act.put, ly1, ly3, ly4, ly5, ly6]
  refine tk (i := 1) (v := ?_) rfl (Or.inl ⟨by rfl, ?_⟩) (by assumption) ?_
  rotate_left
  · (intro w hSw; (try dsimp only at hSw); have c1 := CF.out w ((hSw S (by omega)).trans XB.out); obtain ⟨c10, c11, _⟩ := c1; go_simp; try with_reducible rfl)
  simp only [Act.put, ly1, ly2, ly3, ly4, ly5, ly6]
  refine tk (i := 3) (v := ?_) rfl (Or.inl ⟨by rfl, ?_⟩) (by assumption) ?_
  rotate_left
  · (intro w hSw; (try dsimp only at hSw); go_simp; try with_reducible rfl)
  simp only [Act.put, ly1, ly2, ly3, ly4, ly5, ly6]
  refine tk (i := 4) (v := ?_) rfl (Or.inl ⟨by rfl, ?_⟩) (by assumption) ?_
  rotate_left
  · (intro w hSw; (try dsimp only at hSw); have c1 := CF.out w ((hSw S (by omega)).trans XB.out); obtain ⟨c10, c11, _⟩ := c1; go_simp; try with_reducible rfl)
  simp only [Act.put, ly1, ly2, ly3, ly4, ly5, ly6]
  refine tk (i := 7) (v := ?_) rfl (Or.inl ⟨by rfl, ?_⟩) (by assumption) ?_
  rotate_left
  · (intro w hSw; (try dsimp only at hSw); go_simp; try with_reducible rfl)
  simp only [Act.put, ly1, ly2, ly3, ly4, ly5, ly6]
  refine tk (i := 8) (v := ?_) rfl (Or.inl ⟨by rfl, ?_⟩) (by assumption) ?_
  rotate_left
  · (intro w hSw; (try dsimp only at hSw); go_simp; try with_reducible rfl)
  simp only [Act.put, ly1, ly2, ly3, ly4, ly5, ly6]
  refine tk (i := 9) (v := ?_) rfl (Or.inl ⟨by rfl, ?_⟩) (by assumption) ?_
  rotate_left
  · (intro w hSw; (try dsimp only at hSw); go_simp; try with_reducible rfl)
  simp only [Act.put, ly1, ly2, ly3, ly4, ly5, ly6]
  refine wpAnyH_ready (rs := [2]) (by kernel_rfl) (by simp) ?_
  refine AllReadyH.cons rfl (fun K hK => ?_) AllReadyH.nil
  go_simp
  go_at_call 31
  refine (dNum (cel p 0) 1 _ (by decide)).mono ?_
  rintro e wa1 ⟨A1, c1, rfl, hob, hba⟩
  have XN : Hid (Below (S + 1) v wa1) := XX.out.trans (hba.mono (by have := XX.out.size; have := WN.out; omega))
  have O1 : Hid (Ob (S + 1) wa1 A1 _ c1 (digs (cel p 0) 1)) := Lib.hid (ob_low hob (by have := XX.out.size; have := WN.out; omega))
  clear XX hba hob hHeld
  have XX := XN
  clear XN
  (try go_wp2_with fail)
  refine hK.out _ _ (by exact fun q hq => XX.out.block q hq) (fun hHeld => ?_)
  clear hK K
  refine wpAnyH_ready (rs := [5]) (by kernel_rfl) (by simp) ?_
  refine AllReadyH.cons rfl (fun K hK => ?_) AllReadyH.nil
  go_simp
  go_at_call 31
  refine (dNum (cel p 1) 2 _ (by decide)).mono ?_
  rintro e wa2 ⟨AM, cM, rfl, hob, hba⟩
  have XN : Hid (Below (S + 1) v wa2) := XX.out.trans (hba.mono (by have := XX.out.size; have := WN.out; omega))
  replace O1 := Lib.hid (ob_keep O1.out hba)
  have OM : Hid (Ob (S + 1) wa2 AM _ cM (digs (cel p 1) 2)) := Lib.hid (ob_low hob (by have := XX.out.size; have := WN.out; omega))
  clear XX hba hob hHeld
  have XX := XN
  clear XN
  (try go_wp2_with fail)
  refine hK.out _ _ (by exact fun q hq => XX.out.block q hq) (fun hHeld => ?_)
  clear hK K
  refine wpAnyH_ready (rs := [6]) (by kernel_rfl) (by simp) ?_
  refine AllReadyH.cons rfl (fun K hK => ?_) AllReadyH.nil
  refine step_ap rfl (.tmp 7) (.tmp 10) rfl ((S + 1)) (1) _ _ _ rfl O1.out _ (2) _ _ rfl (ob_src OM.out) ((ob_cap OM.out).2.2) (by omega) (by have := XX.out.size; have := WN.out; omega) ?_
  intro A2 c2 wa3 hob hba hot
  have XN : Hid (Below (S + 1) v wa3) := XX.out.trans (hba.mono (by omega))
  have O2 : Hid (Ob (S + 1) wa3 A2 _ c2 (digs (cel p 0) 1 ++ digs (cel p 1) 2)) := Lib.hid (hob)
  clear XX hba hob hot hHeld
  have XX := XN
  clear XN
  refine hK.out _ _ (by exact fun q hq => XX.out.block q hq) (fun hHeld => ?_)
  clear hK K
  refine wpAnyH_ready (rs := [10]) (by kernel_rfl) (by simp) ?_
  refine AllReadyH.cons rfl (fun K hK => ?_) AllReadyH.nil
  refine step_ap rfl (.tmp 11) (.tmp 14) rfl ((S + 1)) (1 + 2) _ _ _ rfl O2.out _ (8) _ _ rfl (src_all (CF.out _ ((XX.out.block S (by omega)).trans XB.out)).2.2.1 (seg_len (by rw [LP.out]; decide))) (fun h => by cases h) (by omega) (by have := XX.out.size; have := WN.out; omega) ?_
  intro A3 c3 wa4 hob hba hot
  have XN : Hid (Below (S + 1) v wa4) := XX.out.trans (hba.mono (by omega))
  have O3 : Hid (Ob (S + 1) wa4 A3 _ c3 (digs (cel p 0) 1 ++ digs (cel p 1) 2 ++ seg p 2 8)) := Lib.hid (hob)
  clear XX hba hob hot hHeld
  have XX := XN
  clear XN
  refine hK.out _ _ (by exact fun q hq => XX.out.block q hq) (fun hHeld => ?_)
  clear hK K
  refine tk (i := 11) (v := ?_) rfl (Or.inl ⟨by rfl, ?_⟩) (by assumption) ?_
  rotate_left
  · (intro w hSw; (try dsimp only at hSw); go_simp; try with_reducible rfl)
  simp only [Act.put, ly1, ly2, ly3, ly4, ly5, ly6]
  refine wpAnyH_done (by kernel_rfl) ?_ _
  show K _ _
  refine hK _ _ ?_
  clear hK K hHeld
  have OA : Hid (Ob (S + 1) wa4 A3 11 c3 (digs (cel p 0) 1 ++ digs (cel p 1) 2 ++ seg p 2 8)) := Lib.hid O3.out
  clear O3
  simp only [Nat.reduceAdd]
  replace BB := Lib.hid (BB.out.trans XX.out)
  replace WN := Lib.hid (Nat.le_trans WN.out XX.out.size)
  replace XB := Lib.hid (bl_keep XB.out (XX.out.block S (by omega)))
  clear XX
  go_wp2_with fail
  rename_i K hK
  have XX : Hid (Below (S + 1) wa4 wa4.drew) := (Below.refl _ _).drew
  replace OA := Lib.hid (ob_drew OA.out)
  refine wp_region_held_drew (S := (fun w' : World => ∀ q, q < (S + 1) → w'.heap[q]? = wa4.heap[q]?)) (by kernel_rfl) (by exact fun _ _ => rfl) (fun hHeld => ?_)
  refine tk (i := 0) (v := ?_) rfl (Or.inl ⟨by rfl, ?_⟩) (by assumption) ?_
  rotate_left
  · (intro w hSw; (try dsimp only at hSw); go_simp; try with_reducible rfl)
  simp only [Act.put, ly1, ly3, ly4, ly5, ly6]
  refine tk (i := 1) (v := ?_) rfl (Or.inl ⟨by rfl, ?_⟩) (by assumption) ?_
  rotate_left
  · (intro w hSw; (try dsimp only at hSw); go_simp; try with_reducible rfl)
  simp only [Act.put, ly1, ly2, ly3, ly4, ly5, ly6]
  refine tk (i := 2) (v := ?_) rfl (Or.inl ⟨by rfl, ?_⟩) (by assumption) ?_
  rotate_left
  · (intro w hSw; (try dsimp only at hSw); go_simp; try with_reducible rfl)
  simp only [Act.put, ly1, ly2, ly3, ly4, ly5, ly6]
  refine tk (i := 3) (v := ?_) rfl (Or.inl ⟨by rfl, ?_⟩) (by assumption) ?_
  rotate_left
  · (intro w hSw; (try dsimp only at hSw); have c1 := CF.out w ((hSw S (by omega)).trans XB.out); obtain ⟨_, _, _, c13, c14, _⟩ := c1; go_simp; try with_reducible rfl)
  simp only [Act.put, ly1, ly2, ly3, ly4, ly5, ly6]
  refine tk (i := 6) (v := ?_) rfl (Or.inl ⟨by rfl, ?_⟩) (by assumption) ?_
  rotate_left
  · (intro w hSw; (try dsimp only at hSw); go_simp; try with_reducible rfl)
  simp only [Act.put, ly1, ly2, ly3, ly4, ly5, ly6]
  refine tk (i := 7) (v := ?_) rfl (Or.inl ⟨by rfl, ?_⟩) (by assumption) ?_
  rotate_left
  · (intro w hSw; (try dsimp only at hSw); go_simp; try with_reducible rfl)
  simp only [Act.put, ly1, ly2, ly3, ly4, ly5, ly6]
  refine tk (i := 8) (v := ?_) rfl (Or.inl ⟨by rfl, ?_⟩) (by assumption) ?_
  rotate_left
  · (intro w hSw; (try dsimp only at hSw); have c1 := CF.out w ((hSw S (by omega)).trans XB.out); obtain ⟨_, _, _, c13, c14, _⟩ := c1; go_simp; try with_reducible rfl)
  simp only [Act.put, ly1, ly2, ly3, ly4, ly5, ly6]
  refine wpAnyH_ready (rs := [4]) (by kernel_rfl) (by simp) ?_
  refine AllReadyH.cons rfl (fun K hK => ?_) AllReadyH.nil
  go_simp
  go_at_call 31
  refine (dNum (cel p 10) 7 _ (by decide)).mono ?_
  rintro e wb1 ⟨AM, cM, rfl, hob, hba⟩
  have XN : Hid (Below (S + 1) wa4 wb1) := XX.out.trans (hba.mono (by have := XX.out.size; have := WN.out; omega))
  replace OA := Lib.hid (ob_keep OA.out hba)
  have OM : Hid (Ob (S + 1) wb1 AM _ cM (digs (cel p 10) 7)) := Lib.hid (ob_low hob (by have := XX.out.size; have := WN.out; omega))
  clear XX hba hob hHeld
  have XX := XN
  clear XN
  (try go_wp2_with fail)
  refine hK.out _ _ (by exact fun q hq => XX.out.block q hq) (fun hHeld => ?_)
  clear hK K
  refine wpAnyH_ready (rs := [5]) (by kernel_rfl) (by simp) ?_
  refine AllReadyH.cons rfl (fun K hK => ?_) AllReadyH.nil
  refine step_ap rfl (.tmp 16) (.tmp 20) rfl ((S + 1)) (11) _ _ _ rfl OA.out _ (7) _ _ rfl (ob_src OM.out) ((ob_cap OM.out).2.2) (by omega) (by have := XX.out.size; have := WN.out; omega) ?_
  intro A4 c4 wb2 hob hba hot
  have XN : Hid (Below (S + 1) wa4 wb2) := XX.out.trans (hba.mono (by omega))
  have O4 : Hid (Ob (S + 1) wb2 A4 _ c4 (digs (cel p 0) 1 ++ digs (cel p 1) 2 ++ seg p 2 8 ++ digs (cel p 10) 7)) := Lib.hid (hob)
  clear XX hba hob hot hHeld
  have XX := XN
  clear XN
  refine hK.out _ _ (by exact fun q hq => XX.out.block q hq) (fun hHeld => ?_)
  clear hK K
  refine wpAnyH_ready (rs := [9]) (by kernel_rfl) (by simp) ?_
  refine AllReadyH.cons rfl (fun K hK => ?_) AllReadyH.nil
  go_simp
  go_at_call 31
  refine (dNum (cel p 11) 1 _ (by decide)).mono ?_
  rintro e wb3 ⟨AP, cP, rfl, hob, hba⟩
  have XN : Hid (Below (S + 1) wa4 wb3) := XX.out.trans (hba.mono (by have := XX.out.size; have := WN.out; omega))
  replace O4 := Lib.hid (ob_keep O4.out hba)
  have OP : Hid (Ob (S + 1) wb3 AP _ cP (digs (cel p 11) 1)) := Lib.hid (ob_low hob (by have := XX.out.size; have := WN.out; omega))
  clear XX hba hob hHeld
  have XX := XN
  clear XN
  (try go_wp2_with fail)
  refine hK.out _ _ (by exact fun q hq => XX.out.block q hq) (fun hHeld => ?_)
  clear hK K
  refine wpAnyH_ready (rs := [10]) (by kernel_rfl) (by simp) ?_
  refine AllReadyH.cons rfl (fun K hK => ?_) AllReadyH.nil
  refine step_ap rfl (.tmp 21) (.tmp 25) rfl ((S + 1)) (11 + 7) _ _ _ rfl O4.out _ (1) _ _ rfl (ob_src OP.out) ((ob_cap OP.out).2.2) (by omega) (by have := XX.out.size; have := WN.out; omega) ?_
  intro A6 c6 wb4 hob hba hot
  have XN : Hid (Below (S + 1) wa4 wb4) := XX.out.trans (hba.mono (by omega))
  have O6 : Hid (Ob (S + 1) wb4 A6 _ c6 (digs (cel p 0) 1 ++ digs (cel p 1) 2 ++ seg p 2 8 ++ digs (cel p 10) 7 ++ digs (cel p 11) 1)) := Lib.hid (hob)
  clear XX hba hob hot hHeld
  have XX := XN
  clear XN
  refine hK.out _ _ (by exact fun q hq => XX.out.block q hq) (fun hHeld => ?_)
  clear hK K
  refine tk (i := 11) (v := ?_) rfl (Or.inl ⟨by rfl, ?_⟩) (by assumption) ?_
  rotate_left
  · (intro w hSw; (try dsimp only at hSw); go_simp; try with_reducible rfl)
  simp only [Act.put, ly1, ly2, ly3, ly4, ly5, ly6]
  refine wpAnyH_done (by kernel_rfl) ?_ _
  show K _ _
  refine hK _ _ ?_
  clear hK K hHeld
  have HX : Hid (Ob (S + 1) wb4 A6 (19 + 0 * 8) c6 (claH p ++ seg p 12 (0 * 8))) := Lib.hid (ob_eq O6.out (by omega) (by rw [Nat.zero_mul, seg_zero, List.append_nil, claH]))
  clear O6
  simp only [Nat.reduceAdd]
  replace BB := Lib.hid (BB.out.trans XX.out)
  replace WN := Lib.hid (Nat.le_trans WN.out XX.out.size)
  replace XB := Lib.hid (bl_keep XB.out (XX.out.block S (by omega)))
  clear XX
  have HB := Lib.hid BB.out
  go_wp2
  go_loopw [3, 4] (fun x i wr => ∃ (k : Nat) (A : Option Addr) (c : Nat), k ≤ 16 ∧ i = .int .i64 k ∧ x = .slice A (19 + k * 8) c ∧ Ob (S + 1) wr A (19 + k * 8) c (claH p ++ seg p 12 (k * 8)) ∧ Below (S + 1) v wr) (fun _ i _ => 16 - (intOf i).toNat)
  case atStart => exact ⟨0, A6, c6, by omega, rfl, sl_eq (by omega), HX.out, HB.out⟩
  case round =>
    clear XB WN HX HB BB
    obtain ⟨k, A, c, hk, rfl, rfl, hown, hbel⟩ := hrel
    have O2 := Lib.hid hown
    have BB := Lib.hid hbel
    have XB := Lib.hid (bl_keep XV.out (hbel.block S (by omega)))
    clear hown hbel
    by_cases hlt : k < 16
    · have h2 : (k : Int) < 16 := by omega
      have SK : Hid (Src wr (some ⟨S, 12 + k * 8, none⟩) 8 (seg p (12 + k * 8) 8)) := Lib.hid (by
        have h5 := (CF.out wr XB.out).2.2.2.2.2
        have h3 := src_seg (i := k * 8) (k := 8) h5 (by rw [seg_len (by rw [LP.out]; decide)]; omega)
        rw [dseg_seg (by omega)] at h3
        exact h3)
      go_wp2_with (first
        | (at_builtin; refine wpList_ap rfl (.tmp 31) (.tmp 35) rfl (S + 1) (19 + k * 8) _ _ _ rfl O2.out _ 8 _ _ rfl SK.out (fun h => by cases h) (by omega) (by have := BB.out.size; have := WV.out; omega) ?_; intro A8 c8 w8 ho hb _; have O8 := Lib.hid ho; have B8 := Lib.hid (BB.out.trans hb); clear ho hb)
        | fail)
      go_roundw
      case rel => exact ⟨k + 1, A8, c8, by omega, by go_num, sl_eq (by omega), ob_eq O8.out (by omega) (by rw [List.append_assoc, ← seg_next, Nat.succ_mul]), B8.out⟩
      case measure => simp [intOf]; omega
    · obtain rfl : k = 16 := by omega
      go_wp2
      go_ret
      exact ⟨A, c, rfl, by rw [HS.out, HE0.out]; exact ob_low O2.out (by omega), by rw [HS.out]; exact B0.out.trans (BB.out.mono (by omega))⟩
end Go.Proofs.YtffaddefnpkcgaaGreatDoor

