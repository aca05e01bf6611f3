/-
  The walk of KeytreeChecks.
-/
import Derived.Test.YtkmfmkonejdjiaaDoorK9
import Derived.Test.YtkmfmkonejdjiaaDoorK10
import Derived.Deep.DeepCutAuto
namespace Go.Proofs.YtkmfmkonejdjiaaDoor
open Go.RowKit
theorem byt_at8 {l : List Int} (h : Byt l) (k : Nat) : Byt (at8 l k) := byt_take (byt_drop h _) _
attribute [local irreducible] ua da ba kk sw S8.run rt hs comp splice outB sha msg bvals cat at8 at16 secM zeros sec keyF marksF mk pubk bt openF shutF readF splR oF sF rootF leafH twoH stepsF cutN leadF provL rootV pubF pubs keyL opn sht way gives ckB chkB rootL sg opL shL sigL wayP wayL
set_option maxRecDepth 100000 in
set_option maxHeartbeats 16000000 in
theorem q4 (hs n2 : List Int) (x : Nat) (w : World) (hk : Keys w) (hh : hs.length = 24) (hbh : Byt hs) (hx : x < 256) (hn : n2.length = 2) (hbn : Byt n2) :
    Calls Tryd.prog 4 #[.agg (ba hs), .int .u8 x, .agg (ba n2)] w fun e w' => e = .returned (.bool true) ∧ Below w.heap.size w w' := by
  have h4 := z30
  have h5 := z27
  have HK := Lib.hid hk
  have HP : Hid (0 < w.heap.size) := keys_pos hk
  obtain ⟨S, hS⟩ : ∃ S, w.heap.size = S := ⟨_, rfl⟩
  have HS := Lib.hid hS
  have KW : Hid (∀ w', Below S w w' → Keys w') := fun w' hb => keys_below HK.out hb (by rw [← HS.out]; exact HP.out)
  have H0 := Lib.hid (ba_old (ba_new hS hs 28) (Obj.cells (ba n2) 38))
  have N0 := Lib.hid (ba_new (size_al hS (Obj.cells (ba hs) 28)) n2 38)
  have B0 : Hid (Below S w ((w.alloc (Obj.cells (ba hs) 28)).alloc (Obj.cells (ba n2) 38))) := by subst hS; exact ((Below.refl _ w).alloc (Nat.le_refl _) _).alloc (by simp) _
  have C7 := Lib.hid (kAwake ((w.alloc (Obj.cells (ba hs) 28)).alloc (Obj.cells (ba n2) 38)) (KW.out _ B0.out))
  obtain ⟨p, q, hn2, hp, hq⟩ : ∃ p q : Nat, n2 = [(p : Int), (q : Int)] ∧ p < 256 ∧ q < 256 := by
    match n2, hn with
    | [a, b], _ =>
      have ha := hbn a (by simp)
      have hb := hbn b (by simp)
      exact ⟨a.toNat, b.toNat, by rw [Int.toNat_of_nonneg ha.1, Int.toNat_of_nonneg hb.1], by omega, by omega⟩
  have HN2 := Lib.hid hn2
  obtain ⟨h0, hh0⟩ : ∃ h, at8 hs 0 = h := ⟨_, rfl⟩
  obtain ⟨h1, hh1⟩ : ∃ h, at8 hs 1 = h := ⟨_, rfl⟩
  obtain ⟨h2, hh2⟩ : ∃ h, at8 hs 2 = h := ⟨_, rfl⟩
  have L0 : Hid (h0.length = 8) := by rw [← hh0]; exact at8_len (n := 3) (by omega) (by omega)
  have L1 : Hid (h1.length = 8) := by rw [← hh1]; exact at8_len (n := 3) (by omega) (by omega)
  have L2 : Hid (h2.length = 8) := by rw [← hh2]; exact at8_len (n := 3) (by omega) (by omega)
  have BY1 : Hid (Byt h1) := by rw [← hh1]; exact byt_at8 hbh 1
  have BY2 : Hid (Byt h2) := by rw [← hh2]; exact byt_at8 hbh 2
  have R0 : Hid (∀ w' : World, BA w' S 28 hs → w'.rangeAt S 0 (bvals h0)) := fun w' h => by rw [← hh0]; exact range8 h rfl (by omega)
  have R1 : Hid (∀ w' : World, BA w' S 28 hs → w'.rangeAt S 8 (bvals h1)) := fun w' h => by rw [← hh1]; exact range8 h rfl (by omega)
  have R2 : Hid (∀ w' : World, BA w' S 28 hs → w'.rangeAt S 16 (bvals h2)) := fun w' h => by rw [← hh2]; exact range8 h rfl (by omega)
  have hi0 := inf23 h0 L0.out
  have hi1 := inf23 h1 L1.out
  have hi2 := inf23 h2 L2.out
  obtain ⟨n, hnn⟩ : ∃ n, x % 8 = n := ⟨_, rfl⟩
  have hn8 : n < 8 := by omega
  have cx : IntKind.i64.wrap (x : Int) = (x : Int) := by rw [IntKind.wrap_i64]; omega
  have mx : (x : Int).tmod 8 = (n : Int) := by rw [← hnn]; simp [Int.tmod]
  have mn : IntKind.i64.wrap (n : Int) = (n : Int) := by rw [IntKind.wrap_i64]; omega
  obtain ⟨L, hL⟩ : ∃ L, sigL h0 n h1 = L := ⟨_, rfl⟩
  obtain ⟨Q, hQ⟩ : ∃ Q, rootL h0 = Q := ⟨_, rfl⟩
  have LS : Hid (L.length = 280) := by rw [← hL]; exact sigL_len _ _ _
  have LQ : Hid (Q.length = 8) := by rw [← hQ]; exact rootL_len _
  have C10 : Hid (∀ w', Below S w w' → Calls Tryd.prog 10 #[.agg (ba h0), .int .i64 n, .agg (ba h1)] w' fun e w'' => e = .returned (.tuple #[.agg (sg n L).toArray, .bool true]) ∧ Below w'.heap.size w' w'') := fun w' hb => by
    have := dSignT h0 h1 n w' (KW.out w' hb) L0.out L1.out BY1.out hn8
    rw [hL] at this
    exact this
  have C12 : Hid (∀ w', Below S w w' → Calls Tryd.prog 12 #[.agg (ba h0)] w' fun e w'' => e = .returned (.agg (ba Q)) ∧ Below w'.heap.size w' w'') := fun w' hb => by
    have := dTree h0 w' (KW.out w' hb) L0.out
    rw [hQ] at this
    exact this
  clear hk hh hbh hx hn hbn hn2 hh0 hh1 hh2 hnn hL hQ
  go_enter Tryd.func4, Tryd.ntmps4
  go_upto_region 6 with (first
    | (go_at_call 7
       refine C7.out.mono ?_
       rintro e w1 ⟨rfl, hb⟩
       have H1 : Hid (BA w1 S 28 hs) := (hb.block _ (lt_of_block H0.out)).trans H0.out
       have N1 : Hid (BA w1 (S + 1) 38 n2) := (hb.block _ (lt_of_block N0.out)).trans N0.out
       have B1 : Hid (Below S w w1) := B0.out.trans (hb.mono (by have := lt_of_block N0.out; omega))
       have SVw1 : Hid (S ≤ w1.heap.size) := by show _ ≤ _; have := lt_of_block N1.out; omega
       clear hb H0 N0 B0 C7 hS)
    | (refine wpList_load_mid rfl 23 (.tmp 14) rfl S 0 rfl (bvals h0) _ (R0.out _ H1.out) Tryd.underlying23 rfl hi0 ?_
       rw [← ba_bvals h0])
    | (refine wpList_load_mid rfl 23 (.tmp 19) rfl S 8 rfl (bvals h1) _ (R1.out _ H1.out) Tryd.underlying23 rfl hi1 ?_
       rw [← ba_bvals h1])
    | (go_at_call 10
       refine (C10.out w1 B1.out).mono ?_
       rintro e u1 ⟨rfl, hb⟩
       have H1_i : Hid (BA u1 S 28 hs) := (hb.block _ (lt_of_block H1.out)).trans H1.out
       have N1_i : Hid (BA u1 (S + 1) 38 n2) := (hb.block _ (lt_of_block N1.out)).trans N1.out
       have B1_i : Hid (Below S w u1) := B1.out.trans (hb.mono SVw1.out)
       have SVba : Hid (S ≤ u1.heap.size) := Nat.le_trans SVw1.out hb.size
       clear hb
       obtain ⟨A, hA⟩ : ∃ q, u1.heap.size = q := ⟨_, rfl⟩
       have Y0a := Lib.hid (sb_new hA 0 (zeros 280))
       have AS : Hid (S ≤ A) := by show _ ≤ _; rw [← hA]; exact SVba.out)
    | (refine wpList_store_rowTo rfl 30 (.tmp 7) (.tmp 22) rfl rfl A (sg (n) L).toArray rfl rfl 30 (sg 0 (zeros 280)).toArray Y0a.out (sg_infoA _ _ LS.out) ((sg_size _ _ (zeros_len 280)).trans (sg_size _ _ LS.out).symm) (sg_ones _ _) ?_
       have Ya : Hid (SB ((u1.alloc (Obj.cells (sg 0 (zeros 280)).toArray 30)).setRow A (sg (n) L).toArray) A (n) L) := setRow_heap _ _ _ _ _ _ Y0a.out
       have BWa : Hid (Below A u1 ((u1.alloc (Obj.cells (sg 0 (zeros 280)).toArray 30)).setRow A (sg (n) L).toArray)) := below_setRow ((Below.refl _ _).alloc (Nat.le_of_eq hA.symm) _) (Nat.le_refl _) _
       have H1a : Hid (BA ((u1.alloc (Obj.cells (sg 0 (zeros 280)).toArray 30)).setRow A (sg (n) L).toArray) S 28 hs) := (BWa.out.block _ (by rw [← hA]; exact lt_of_block H1_i.out)).trans H1_i.out
       have N1a : Hid (BA ((u1.alloc (Obj.cells (sg 0 (zeros 280)).toArray 30)).setRow A (sg (n) L).toArray) (S + 1) 38 n2) := (BWa.out.block _ (by rw [← hA]; exact lt_of_block N1_i.out)).trans N1_i.out
       have B1a : Hid (Below S w ((u1.alloc (Obj.cells (sg 0 (zeros 280)).toArray 30)).setRow A (sg (n) L).toArray)) := B1_i.out.trans (BWa.out.mono AS.out)
       have LAa : Hid (A < ((u1.alloc (Obj.cells (sg 0 (zeros 280)).toArray 30)).setRow A (sg (n) L).toArray).heap.size) := sb_lt Ya.out
       have SVv2 : Hid (S ≤ ((u1.alloc (Obj.cells (sg 0 (zeros 280)).toArray 30)).setRow A (sg (n) L).toArray).heap.size) := Nat.le_trans AS.out (Nat.le_of_lt LAa.out)
       clear Y0a BWa hA H1 H1_i N1 N1_i B1 B1_i SVba
       generalize ((u1.alloc (Obj.cells (sg 0 (zeros 280)).toArray 30)).setRow A (sg (n) L).toArray) = v2 at *)
    | (refine wpList_load_mid rfl 23 (.tmp 24) rfl S 0 rfl (bvals h0) _ (R0.out _ H1a.out) Tryd.underlying23 rfl hi0 ?_
       rw [← ba_bvals h0])
    | (go_at_call 12
       refine (C12.out v2 B1a.out).mono ?_
       rintro e u2 ⟨rfl, hb⟩
       have H1a_i : Hid (BA u2 S 28 hs) := (hb.block _ (lt_of_block H1a.out)).trans H1a.out
       have N1a_i : Hid (BA u2 (S + 1) 38 n2) := (hb.block _ (lt_of_block N1a.out)).trans N1a.out
       have Ya_i : Hid (SB u2 A n L) := (hb.block _ (lt_of_block Ya.out)).trans Ya.out
       have B1a_i : Hid (Below S w u2) := B1a.out.trans (hb.mono SVv2.out)
       have SVbb : Hid (S ≤ u2.heap.size) := Nat.le_trans SVv2.out hb.size
       clear hb
       obtain ⟨F, hF⟩ : ∃ q, u2.heap.size = q := ⟨_, rfl⟩
       have Y0b := Lib.hid (ba_new hF (zeros 8) 23)
       have FS : Hid (S ≤ F) := by show _ ≤ _; rw [← hF]; exact SVbb.out)
    | (refine wpList_store_rowTo rfl 23 (.tmp 9) (.tmp 26) rfl rfl F (ba Q) rfl rfl 23 (ba (zeros 8)) Y0b.out (sz s27 (by rw [ba_size, LQ.out])) (by rw [ba_size, ba_size, LQ.out, zeros_len]) (ba_one Q) ?_
       have Yb : Hid (BA ((u2.alloc (Obj.cells (ba (zeros 8)) 23)).setRow F (ba Q)) F 23 Q) := setRow_heap _ _ _ _ _ _ Y0b.out
       have BWb : Hid (Below F u2 ((u2.alloc (Obj.cells (ba (zeros 8)) 23)).setRow F (ba Q))) := below_setRow ((Below.refl _ _).alloc (Nat.le_of_eq hF.symm) _) (Nat.le_refl _) _
       have H1ab : Hid (BA ((u2.alloc (Obj.cells (ba (zeros 8)) 23)).setRow F (ba Q)) S 28 hs) := (BWb.out.block _ (by rw [← hF]; exact lt_of_block H1a_i.out)).trans H1a_i.out
       have N1ab : Hid (BA ((u2.alloc (Obj.cells (ba (zeros 8)) 23)).setRow F (ba Q)) (S + 1) 38 n2) := (BWb.out.block _ (by rw [← hF]; exact lt_of_block N1a_i.out)).trans N1a_i.out
       have Yab : Hid (SB ((u2.alloc (Obj.cells (ba (zeros 8)) 23)).setRow F (ba Q)) A n L) := (BWb.out.block _ (by rw [← hF]; exact lt_of_block Ya_i.out)).trans Ya_i.out
       have B1ab : Hid (Below S w ((u2.alloc (Obj.cells (ba (zeros 8)) 23)).setRow F (ba Q))) := B1a_i.out.trans (BWb.out.mono FS.out)
       have LAb : Hid (F < ((u2.alloc (Obj.cells (ba (zeros 8)) 23)).setRow F (ba Q)).heap.size) := lt_of_block Yb.out
       have SVv3 : Hid (S ≤ ((u2.alloc (Obj.cells (ba (zeros 8)) 23)).setRow F (ba Q)).heap.size) := Nat.le_trans FS.out (Nat.le_of_lt LAb.out)
       clear Y0b BWb hF H1a_i N1a_i Ya_i H1a N1a Ya B1a B1a_i SVbb
       generalize ((u2.alloc (Obj.cells (ba (zeros 8)) 23)).setRow F (ba Q)) = v3 at *)
    | (refine wpList_load_mid rfl 23 (.tmp 27) rfl S 8 rfl (bvals h1) _ (R1.out _ H1ab.out) Tryd.underlying23 rfl hi1 ?_
       rw [← ba_bvals h1]
       have SVbc := SVv3
       obtain ⟨G, hG⟩ : ∃ q, v3.heap.size = q := ⟨_, rfl⟩
       have Y0c := Lib.hid (ba_new hG (zeros 8) 23)
       have FG : Hid (F < G) := by show _ < _; rw [← hG]; exact LAb.out
       have GS : Hid (S ≤ G) := by show _ ≤ _; rw [← hG]; exact SVbc.out)
    | (refine wpList_store_rowTo rfl 23 (.tmp 10) (.tmp 28) rfl rfl G (ba h1) rfl rfl 23 (ba (zeros 8)) Y0c.out (sz s27 (by rw [ba_size, L1.out])) (by rw [ba_size, ba_size, L1.out, zeros_len]) (ba_one h1) ?_
       have Yc : Hid (BA ((v3.alloc (Obj.cells (ba (zeros 8)) 23)).setRow G (ba h1)) G 23 h1) := setRow_heap _ _ _ _ _ _ Y0c.out
       have BWc : Hid (Below G v3 ((v3.alloc (Obj.cells (ba (zeros 8)) 23)).setRow G (ba h1))) := below_setRow ((Below.refl _ _).alloc (Nat.le_of_eq hG.symm) _) (Nat.le_refl _) _
       have H1abc : Hid (BA ((v3.alloc (Obj.cells (ba (zeros 8)) 23)).setRow G (ba h1)) S 28 hs) := (BWc.out.block _ (by rw [← hG]; exact lt_of_block H1ab.out)).trans H1ab.out
       have N1abc : Hid (BA ((v3.alloc (Obj.cells (ba (zeros 8)) 23)).setRow G (ba h1)) (S + 1) 38 n2) := (BWc.out.block _ (by rw [← hG]; exact lt_of_block N1ab.out)).trans N1ab.out
       have Yabc : Hid (SB ((v3.alloc (Obj.cells (ba (zeros 8)) 23)).setRow G (ba h1)) A n L) := (BWc.out.block _ (by rw [← hG]; exact lt_of_block Yab.out)).trans Yab.out
       have Ybc : Hid (BA ((v3.alloc (Obj.cells (ba (zeros 8)) 23)).setRow G (ba h1)) F 23 Q) := (BWc.out.block _ (by rw [← hG]; exact lt_of_block Yb.out)).trans Yb.out
       have B1abc : Hid (Below S w ((v3.alloc (Obj.cells (ba (zeros 8)) 23)).setRow G (ba h1))) := B1ab.out.trans (BWc.out.mono GS.out)
       have LAc : Hid (G < ((v3.alloc (Obj.cells (ba (zeros 8)) 23)).setRow G (ba h1)).heap.size) := lt_of_block Yc.out
       have SVv4 : Hid (S ≤ ((v3.alloc (Obj.cells (ba (zeros 8)) 23)).setRow G (ba h1)).heap.size) := Nat.le_trans GS.out (Nat.le_of_lt LAc.out)
       clear Y0c BWc hG H1ab N1ab Yab Yb B1ab SVbc
       generalize ((v3.alloc (Obj.cells (ba (zeros 8)) 23)).setRow G (ba h1)) = v4 at *)
    | fail)
  have HB : Hid (BA v4 S 28 hs) := H1abc.out
  have NB : Hid (BA v4 (S + 1) 38 n2) := N1abc.out
  have YA : Hid (SB v4 A n L) := Yabc.out
  have YF : Hid (BA v4 F 23 Q) := Ybc.out
  have YG : Hid (BA v4 G 23 h1) := Yc.out
  have BB : Hid (Below S w v4) := B1abc.out
  have cp : v4.cell? ⟨S + 1, 0, none⟩ = some (.int .u8 (p : Int)) := by
    have := ba_cell NB.out 0 (by rw [HN2.out]; show _ < 2; omega)
    rw [HN2.out] at this
    exact this
  have cq : v4.cell? ⟨S + 1, 1, none⟩ = some (.int .u8 (q : Int)) := by
    have := ba_cell NB.out 1 (by rw [HN2.out]; show _ < 2; omega)
    rw [HN2.out] at this
    exact this
  obtain ⟨c, hc⟩ : ∃ c, p % 8 = c := ⟨_, rfl⟩
  have hc8 : c < 8 := by omega
  have mp : (p : Int).tmod 8 = (c : Int) := by rw [← hc]; simp [Int.tmod]
  have wc : IntKind.u8.wrap (c : Int) = (c : Int) := by rw [IntKind.wrap_u8']; omega
  clear H1abc N1abc Yabc Ybc Yc B1abc hc hp cx mx mn h4 h5 C10 C12 hi0 hi1
  have cA : v4.cell? ⟨A, 0, none⟩ = some (.int .i64 n) := sb_cell0 YA.out
  have fA : v4.frozen? ⟨A, 0, none⟩ = false := sb_free YA.out 0
  have nAF : Hid (A ≠ F) := types_ne YA.out YF.out (by decide)
  have nAG : Hid (A ≠ G) := types_ne YA.out YG.out (by decide)
  have nFG : Hid (F ≠ G) := by show _ ≠ _; have := FG.out; omega
  have wq : IntKind.i64.wrap (q : Int) = (q : Int) := by rw [IntKind.wrap_i64]; omega
  have wm : wrap64 (-1 - (q : Int)) = -1 - (q : Int) := by unfold wrap64; omega
  have AS2 := AS
  have FS2 := FS
  have GS2 := GS
  have B4 := BB
  clear BB
  have hcc : c = 0 ∨ c = 1 ∨ c = 2 ∨ c = 3 ∨ c = 4 ∨ c = 5 ∨ c = 6 ∨ c = 7 := by omega
  clear hc8
  rcases hcc with rfl | rfl | rfl | rfl | rfl | rfl | rfl | rfl
  · go_wp2_with fail
    have y0 : Hid (SB v4 A (n) L) := YA.out
    have y1 : Hid ((L).length = 280) := LS.out
    have y2 : Hid (BA v4 F 23 Q) := YF.out
    have y3 : Hid (Q.length = 8) := LQ.out
    have y4 : Hid (BA v4 G 23 h1) := YG.out
    have y5 : Hid (h1.length = 8) := L1.out
    have y6 : Hid (Byt h1) := BY1.out
    have y7 : Hid (Below S w v4) := B4.out
    clear HB NB YA YF YG B4 cp cq cA fA R0 R1 R2
    have YA := y0
    have LM := y1
    have YF := y2
    have LR := y3
    have YG := y4
    have LMM := y5
    have BM := y6
    have BB := y7
    clear y0 y1 y2 y3 y4 y5 y6 y7
    generalize v4 = wB at *
    have hir := inf23 Q LR.out
    have him := inf23 h1 LMM.out
    obtain ⟨N, hN⟩ : ∃ N, wB.heap.size = N := ⟨_, rfl⟩
    have WN : Hid (wB.heap.size = N) := hN
    have LN : Hid (A < N ∧ F < N ∧ G < N) := by show _ ∧ _; rw [← hN]; exact ⟨sb_lt YA.out, lt_of_block YF.out, lt_of_block YG.out⟩
    have KN : Hid (∀ w', Below N wB w' → Below S w w') := fun w' hb => BB.out.trans (hb.mono (by have := LN.out; have := AS2.out; omega))
    obtain ⟨v, hv⟩ : ∃ v, ckB Q h1 (n) L = v := ⟨_, rfl⟩
    have C13 : Hid (∀ w', Below S w w' → Calls Tryd.prog 13 #[.agg (bvals Q).toArray, .agg (bvals h1).toArray, .agg (sg (n) L).toArray] w' fun e w'' => e = .returned (.bool v) ∧ Below w'.heap.size w' w'') := fun w' hb => by
      have := kCheck Q h1 (n) L w' (KW.out w' hb) LR.out LMM.out BM.out LM.out
      rw [hv, ba_bvals Q, ba_bvals h1] at this
      exact this
    have C14 : Hid (∀ w', Below S w w' → Calls Tryd.prog 14 #[.agg (bvals Q).toArray, .agg (bvals h1).toArray, .agg (sg (n) L).toArray] w' fun e w'' => e = .returned (.bool v) ∧ Below w'.heap.size w' w'') := fun w' hb => by
      have := dCheck Q h1 (n) L w' (KW.out w' hb) LR.out LMM.out BM.out LM.out
      rw [hv, ba_bvals Q, ba_bvals h1] at this
      exact this
    clear hv hN
    have XX : Hid (Below N wB wB.drew) := (Below.refl _ _).drew
    refine wp_region_held_drew (S := (fun w' : World => ∀ q, q < N → w'.heap[q]? = wB.heap[q]?)) (by kernel_rfl) (by exact fun _ _ => rfl) (fun hHeld => ?_)
    refine wpAnyH_take (i := 0) rfl (by kernel_rfl) (by kernel_rfl) (by kernel_rfl) (fun _ _ _ h => h) (yieldsIf_load_mid (by rfl) 23 (.tmp 9) rfl (F) (0) rfl (bvals Q) _ (fun w h => ba_range (t := 23) ((h _ (by have := LN.out; omega)).trans YF.out)) Tryd.underlying23 rfl hir) (by assumption) ?_
    simp only [Act.put, List.getElem_toArray, List.getElem_cons_zero, List.setIfInBounds_toArray, List.set_cons_zero, List.set_cons_succ]
    refine wpAnyH_take (i := 1) rfl (by kernel_rfl) (by kernel_rfl) (by kernel_rfl) (fun _ _ _ h => h) (yieldsIf_load_mid (by rfl) 23 (.tmp 10) rfl (G) (0) rfl (bvals h1) _ (fun w h => ba_range (t := 23) ((h _ (by have := LN.out; omega)).trans YG.out)) Tryd.underlying23 rfl him) (by assumption) ?_
    simp only [Act.put, List.getElem_toArray, List.getElem_cons_succ, List.getElem_cons_zero, List.setIfInBounds_toArray, List.set_cons_zero, List.set_cons_succ]
    refine wpAnyH_take (i := 2) rfl (by kernel_rfl) (by kernel_rfl) (by kernel_rfl) (fun _ _ _ h => h) (yieldsIf_load_mid (by rfl) 30 (.tmp 7) rfl (A) (0) rfl (sg (n) L) _ (fun w h => sb_all (L := L) ((h _ (by have := LN.out; omega)).trans YA.out)) Tryd.underlying30 rfl (sg_info _ _ LM.out)) (by assumption) ?_
    simp only [Act.put, List.getElem_toArray, List.getElem_cons_succ, List.getElem_cons_zero, List.setIfInBounds_toArray, List.set_cons_zero, List.set_cons_succ]
    refine wpAnyH_take (i := 4) rfl (by kernel_rfl) (by kernel_rfl) (by kernel_rfl) (fun _ _ _ h => h) (yieldsIf_load_mid (by rfl) 23 (.tmp 9) rfl (F) (0) rfl (bvals Q) _ (fun w h => ba_range (t := 23) ((h _ (by have := LN.out; omega)).trans YF.out)) Tryd.underlying23 rfl hir) (by assumption) ?_
    simp only [Act.put, List.getElem_toArray, List.getElem_cons_succ, List.getElem_cons_zero, List.setIfInBounds_toArray, List.set_cons_zero, List.set_cons_succ]
    refine wpAnyH_take (i := 5) rfl (by kernel_rfl) (by kernel_rfl) (by kernel_rfl) (fun _ _ _ h => h) (yieldsIf_load_mid (by rfl) 23 (.tmp 10) rfl (G) (0) rfl (bvals h1) _ (fun w h => ba_range (t := 23) ((h _ (by have := LN.out; omega)).trans YG.out)) Tryd.underlying23 rfl him) (by assumption) ?_
    simp only [Act.put, List.getElem_toArray, List.getElem_cons_succ, List.getElem_cons_zero, List.setIfInBounds_toArray, List.set_cons_zero, List.set_cons_succ]
    refine wpAnyH_take (i := 6) rfl (by kernel_rfl) (by kernel_rfl) (by kernel_rfl) (fun _ _ _ h => h) (yieldsIf_load_mid (by rfl) 30 (.tmp 7) rfl (A) (0) rfl (sg (n) L) _ (fun w h => sb_all (L := L) ((h _ (by have := LN.out; omega)).trans YA.out)) Tryd.underlying30 rfl (sg_info _ _ LM.out)) (by assumption) ?_
    simp only [Act.put, List.getElem_toArray, List.getElem_cons_succ, List.getElem_cons_zero, List.setIfInBounds_toArray, List.set_cons_zero, List.set_cons_succ]
    refine wpAnyH_ready (rs := [3]) (by kernel_rfl) (by simp) ?_
    refine AllReadyH.cons rfl (fun K hK => ?_) AllReadyH.nil
    go_simp
    go_at_call 13
    refine (C13.out _ (KN.out _ XX.out)).mono ?_
    rintro e wc1 ⟨rfl, hba⟩
    have XN : Hid (Below N wB wc1) := XX.out.trans (hba.mono (by have := XX.out.size; have := WN.out; omega))
    clear XX hba hHeld
    have XX := XN
    clear XN
    (try go_wp2_with fail)
    refine hK.out _ _ (by exact fun q hq => XX.out.block q hq) (fun hHeld => ?_)
    clear hK K
    refine wpAnyH_ready (rs := [7]) (by kernel_rfl) (by simp) ?_
    refine AllReadyH.cons rfl (fun K hK => ?_) AllReadyH.nil
    go_simp
    go_at_call 14
    refine (C14.out _ (KN.out _ XX.out)).mono ?_
    rintro e wc2 ⟨rfl, hba⟩
    have XN : Hid (Below N wB wc2) := XX.out.trans (hba.mono (by have := XX.out.size; have := WN.out; omega))
    clear XX hba hHeld
    have XX := XN
    clear XN
    (try go_wp2_with fail)
    refine hK.out _ _ (by exact fun q hq => XX.out.block q hq) (fun hHeld => ?_)
    clear hK K
    refine wpAnyH_take (i := 8) (v := ?_) rfl (by kernel_rfl) (by kernel_rfl) (by kernel_rfl) (fun _ _ _ h => h) (Or.inl ⟨by rfl, ?_⟩) (by assumption) ?_
    rotate_left
    · (intro w hSw; (try dsimp only at hSw); go_simp; try with_reducible rfl)
    simp only [Act.put, List.getElem_toArray, List.getElem_cons_succ, List.getElem_cons_zero, List.setIfInBounds_toArray, List.set_cons_zero, List.set_cons_succ]
    refine wpAnyH_take (i := 9) (v := ?_) rfl (by kernel_rfl) (by kernel_rfl) (by kernel_rfl) (fun _ _ _ h => h) (Or.inl ⟨by rfl, ?_⟩) (by assumption) ?_
    rotate_left
    · (intro w hSw; (try dsimp only at hSw); go_simp; try with_reducible rfl)
    simp only [Act.put, List.getElem_toArray, List.getElem_cons_succ, List.getElem_cons_zero, List.setIfInBounds_toArray, List.set_cons_zero, List.set_cons_succ]
    refine wpAnyH_done (by kernel_rfl) ?_ _
    go_wp2
    go_ret
    exact ⟨rfl, by rw [HS.out]; exact KN.out _ XX.out⟩
  · go_wp2_with (first
     | (refine wpList_load_mid rfl 23 (.tmp 34) rfl S 16 rfl (bvals h2) _ (R2.out _ HB.out) Tryd.underlying23 rfl hi2 ?_; rw [← ba_bvals h2])
     | (refine wpList_store_rowTo rfl 23 (.tmp 10) (.tmp 35) rfl rfl G (ba h2) rfl rfl 23 (ba h1) YG.out (sz s27 (by rw [ba_size, L2.out])) (by rw [ba_size, ba_size, L2.out, L1.out]) (ba_one _) ?_)
     | fail)
    have y0 : Hid (SB (v4.setRow G (ba h2)) A (n) L) := (setRow_other _ _ _ _ nAG.out).trans YA.out
    have y1 : Hid ((L).length = 280) := LS.out
    have y2 : Hid (BA (v4.setRow G (ba h2)) F 23 Q) := (setRow_other _ _ _ _ nFG.out).trans YF.out
    have y3 : Hid (Q.length = 8) := LQ.out
    have y4 : Hid (BA (v4.setRow G (ba h2)) G 23 h2) := setRow_heap _ _ _ _ _ _ YG.out
    have y5 : Hid (h2.length = 8) := L2.out
    have y6 : Hid (Byt h2) := BY2.out
    have y7 : Hid (Below S w (v4.setRow G (ba h2))) := below_setRow B4.out GS2.out _
    clear HB NB YA YF YG B4 cp cq cA fA R0 R1 R2
    have YA := y0
    have LM := y1
    have YF := y2
    have LR := y3
    have YG := y4
    have LMM := y5
    have BM := y6
    have BB := y7
    clear y0 y1 y2 y3 y4 y5 y6 y7
    generalize (v4.setRow G (ba h2)) = wB at *
    have hir := inf23 Q LR.out
    have him := inf23 h2 LMM.out
    obtain ⟨N, hN⟩ : ∃ N, wB.heap.size = N := ⟨_, rfl⟩
    have WN : Hid (wB.heap.size = N) := hN
    have LN : Hid (A < N ∧ F < N ∧ G < N) := by show _ ∧ _; rw [← hN]; exact ⟨sb_lt YA.out, lt_of_block YF.out, lt_of_block YG.out⟩
    have KN : Hid (∀ w', Below N wB w' → Below S w w') := fun w' hb => BB.out.trans (hb.mono (by have := LN.out; have := AS2.out; omega))
    obtain ⟨v, hv⟩ : ∃ v, ckB Q h2 (n) L = v := ⟨_, rfl⟩
    have C13 : Hid (∀ w', Below S w w' → Calls Tryd.prog 13 #[.agg (bvals Q).toArray, .agg (bvals h2).toArray, .agg (sg (n) L).toArray] w' fun e w'' => e = .returned (.bool v) ∧ Below w'.heap.size w' w'') := fun w' hb => by
      have := kCheck Q h2 (n) L w' (KW.out w' hb) LR.out LMM.out BM.out LM.out
      rw [hv, ba_bvals Q, ba_bvals h2] at this
      exact this
    have C14 : Hid (∀ w', Below S w w' → Calls Tryd.prog 14 #[.agg (bvals Q).toArray, .agg (bvals h2).toArray, .agg (sg (n) L).toArray] w' fun e w'' => e = .returned (.bool v) ∧ Below w'.heap.size w' w'') := fun w' hb => by
      have := dCheck Q h2 (n) L w' (KW.out w' hb) LR.out LMM.out BM.out LM.out
      rw [hv, ba_bvals Q, ba_bvals h2] at this
      exact this
    clear hv hN
    have XX : Hid (Below N wB wB.drew) := (Below.refl _ _).drew
    refine wp_region_held_drew (S := (fun w' : World => ∀ q, q < N → w'.heap[q]? = wB.heap[q]?)) (by kernel_rfl) (by exact fun _ _ => rfl) (fun hHeld => ?_)
    refine wpAnyH_take (i := 0) rfl (by kernel_rfl) (by kernel_rfl) (by kernel_rfl) (fun _ _ _ h => h) (yieldsIf_load_mid (by rfl) 23 (.tmp 9) rfl (F) (0) rfl (bvals Q) _ (fun w h => ba_range (t := 23) ((h _ (by have := LN.out; omega)).trans YF.out)) Tryd.underlying23 rfl hir) (by assumption) ?_
    simp only [Act.put, List.getElem_toArray, List.getElem_cons_zero, List.setIfInBounds_toArray, List.set_cons_zero, List.set_cons_succ]
    refine wpAnyH_take (i := 1) rfl (by kernel_rfl) (by kernel_rfl) (by kernel_rfl) (fun _ _ _ h => h) (yieldsIf_load_mid (by rfl) 23 (.tmp 10) rfl (G) (0) rfl (bvals h2) _ (fun w h => ba_range (t := 23) ((h _ (by have := LN.out; omega)).trans YG.out)) Tryd.underlying23 rfl him) (by assumption) ?_
    simp only [Act.put, List.getElem_toArray, List.getElem_cons_succ, List.getElem_cons_zero, List.setIfInBounds_toArray, List.set_cons_zero, List.set_cons_succ]
    refine wpAnyH_take (i := 2) rfl (by kernel_rfl) (by kernel_rfl) (by kernel_rfl) (fun _ _ _ h => h) (yieldsIf_load_mid (by rfl) 30 (.tmp 7) rfl (A) (0) rfl (sg (n) L) _ (fun w h => sb_all (L := L) ((h _ (by have := LN.out; omega)).trans YA.out)) Tryd.underlying30 rfl (sg_info _ _ LM.out)) (by assumption) ?_
    simp only [Act.put, List.getElem_toArray, List.getElem_cons_succ, List.getElem_cons_zero, List.setIfInBounds_toArray, List.set_cons_zero, List.set_cons_succ]
    refine wpAnyH_take (i := 4) rfl (by kernel_rfl) (by kernel_rfl) (by kernel_rfl) (fun _ _ _ h => h) (yieldsIf_load_mid (by rfl) 23 (.tmp 9) rfl (F) (0) rfl (bvals Q) _ (fun w h => ba_range (t := 23) ((h _ (by have := LN.out; omega)).trans YF.out)) Tryd.underlying23 rfl hir) (by assumption) ?_
    simp only [Act.put, List.getElem_toArray, List.getElem_cons_succ, List.getElem_cons_zero, List.setIfInBounds_toArray, List.set_cons_zero, List.set_cons_succ]
    refine wpAnyH_take (i := 5) rfl (by kernel_rfl) (by kernel_rfl) (by kernel_rfl) (fun _ _ _ h => h) (yieldsIf_load_mid (by rfl) 23 (.tmp 10) rfl (G) (0) rfl (bvals h2) _ (fun w h => ba_range (t := 23) ((h _ (by have := LN.out; omega)).trans YG.out)) Tryd.underlying23 rfl him) (by assumption) ?_
    simp only [Act.put, List.getElem_toArray, List.getElem_cons_succ, List.getElem_cons_zero, List.setIfInBounds_toArray, List.set_cons_zero, List.set_cons_succ]
    refine wpAnyH_take (i := 6) rfl (by kernel_rfl) (by kernel_rfl) (by kernel_rfl) (fun _ _ _ h => h) (yieldsIf_load_mid (by rfl) 30 (.tmp 7) rfl (A) (0) rfl (sg (n) L) _ (fun w h => sb_all (L := L) ((h _ (by have := LN.out; omega)).trans YA.out)) Tryd.underlying30 rfl (sg_info _ _ LM.out)) (by assumption) ?_
    simp only [Act.put, List.getElem_toArray, List.getElem_cons_succ, List.getElem_cons_zero, List.setIfInBounds_toArray, List.set_cons_zero, List.set_cons_succ]
    refine wpAnyH_ready (rs := [3]) (by kernel_rfl) (by simp) ?_
    refine AllReadyH.cons rfl (fun K hK => ?_) AllReadyH.nil
    go_simp
    go_at_call 13
    refine (C13.out _ (KN.out _ XX.out)).mono ?_
    rintro e wc1 ⟨rfl, hba⟩
    have XN : Hid (Below N wB wc1) := XX.out.trans (hba.mono (by have := XX.out.size; have := WN.out; omega))
    clear XX hba hHeld
    have XX := XN
    clear XN
    (try go_wp2_with fail)
    refine hK.out _ _ (by exact fun q hq => XX.out.block q hq) (fun hHeld => ?_)
    clear hK K
    refine wpAnyH_ready (rs := [7]) (by kernel_rfl) (by simp) ?_
    refine AllReadyH.cons rfl (fun K hK => ?_) AllReadyH.nil
    go_simp
    go_at_call 14
    refine (C14.out _ (KN.out _ XX.out)).mono ?_
    rintro e wc2 ⟨rfl, hba⟩
    have XN : Hid (Below N wB wc2) := XX.out.trans (hba.mono (by have := XX.out.size; have := WN.out; omega))
    clear XX hba hHeld
    have XX := XN
    clear XN
    (try go_wp2_with fail)
    refine hK.out _ _ (by exact fun q hq => XX.out.block q hq) (fun hHeld => ?_)
    clear hK K
    refine wpAnyH_take (i := 8) (v := ?_) rfl (by kernel_rfl) (by kernel_rfl) (by kernel_rfl) (fun _ _ _ h => h) (Or.inl ⟨by rfl, ?_⟩) (by assumption) ?_
    rotate_left
    · (intro w hSw; (try dsimp only at hSw); go_simp; try with_reducible rfl)
    simp only [Act.put, List.getElem_toArray, List.getElem_cons_succ, List.getElem_cons_zero, List.setIfInBounds_toArray, List.set_cons_zero, List.set_cons_succ]
    refine wpAnyH_take (i := 9) (v := ?_) rfl (by kernel_rfl) (by kernel_rfl) (by kernel_rfl) (fun _ _ _ h => h) (Or.inl ⟨by rfl, ?_⟩) (by assumption) ?_
    rotate_left
    · (intro w hSw; (try dsimp only at hSw); go_simp; try with_reducible rfl)
    simp only [Act.put, List.getElem_toArray, List.getElem_cons_succ, List.getElem_cons_zero, List.setIfInBounds_toArray, List.set_cons_zero, List.set_cons_succ]
    refine wpAnyH_done (by kernel_rfl) ?_ _
    go_wp2
    go_ret
    exact ⟨rfl, by rw [HS.out]; exact KN.out _ XX.out⟩
  · go_wp2_with (first
     | (refine wpList_load_mid rfl 23 (.tmp 38) rfl S 16 rfl (bvals h2) _ (R2.out _ HB.out) Tryd.underlying23 rfl hi2 ?_; rw [← ba_bvals h2])
     | (refine wpList_store_rowTo rfl 23 (.tmp 9) (.tmp 39) rfl rfl F (ba h2) rfl rfl 23 (ba Q) YF.out (sz s27 (by rw [ba_size, L2.out])) (by rw [ba_size, ba_size, L2.out, LQ.out]) (ba_one _) ?_)
     | fail)
    have y0 : Hid (SB (v4.setRow F (ba h2)) A (n) L) := (setRow_other _ _ _ _ nAF.out).trans YA.out
    have y1 : Hid ((L).length = 280) := LS.out
    have y2 : Hid (BA (v4.setRow F (ba h2)) F 23 h2) := setRow_heap _ _ _ _ _ _ YF.out
    have y3 : Hid (h2.length = 8) := L2.out
    have y4 : Hid (BA (v4.setRow F (ba h2)) G 23 h1) := (setRow_other _ _ _ _ (fun e => nFG.out e.symm)).trans YG.out
    have y5 : Hid (h1.length = 8) := L1.out
    have y6 : Hid (Byt h1) := BY1.out
    have y7 : Hid (Below S w (v4.setRow F (ba h2))) := below_setRow B4.out FS2.out _
    clear HB NB YA YF YG B4 cp cq cA fA R0 R1 R2
    have YA := y0
    have LM := y1
    have YF := y2
    have LR := y3
    have YG := y4
    have LMM := y5
    have BM := y6
    have BB := y7
    clear y0 y1 y2 y3 y4 y5 y6 y7
    generalize (v4.setRow F (ba h2)) = wB at *
    have hir := inf23 h2 LR.out
    have him := inf23 h1 LMM.out
    obtain ⟨N, hN⟩ : ∃ N, wB.heap.size = N := ⟨_, rfl⟩
    have WN : Hid (wB.heap.size = N) := hN
    have LN : Hid (A < N ∧ F < N ∧ G < N) := by show _ ∧ _; rw [← hN]; exact ⟨sb_lt YA.out, lt_of_block YF.out, lt_of_block YG.out⟩
    have KN : Hid (∀ w', Below N wB w' → Below S w w') := fun w' hb => BB.out.trans (hb.mono (by have := LN.out; have := AS2.out; omega))
    obtain ⟨v, hv⟩ : ∃ v, ckB h2 h1 (n) L = v := ⟨_, rfl⟩
    have C13 : Hid (∀ w', Below S w w' → Calls Tryd.prog 13 #[.agg (bvals h2).toArray, .agg (bvals h1).toArray, .agg (sg (n) L).toArray] w' fun e w'' => e = .returned (.bool v) ∧ Below w'.heap.size w' w'') := fun w' hb => by
      have := kCheck h2 h1 (n) L w' (KW.out w' hb) LR.out LMM.out BM.out LM.out
      rw [hv, ba_bvals h2, ba_bvals h1] at this
      exact this
    have C14 : Hid (∀ w', Below S w w' → Calls Tryd.prog 14 #[.agg (bvals h2).toArray, .agg (bvals h1).toArray, .agg (sg (n) L).toArray] w' fun e w'' => e = .returned (.bool v) ∧ Below w'.heap.size w' w'') := fun w' hb => by
      have := dCheck h2 h1 (n) L w' (KW.out w' hb) LR.out LMM.out BM.out LM.out
      rw [hv, ba_bvals h2, ba_bvals h1] at this
      exact this
    clear hv hN
    have XX : Hid (Below N wB wB.drew) := (Below.refl _ _).drew
    refine wp_region_held_drew (S := (fun w' : World => ∀ q, q < N → w'.heap[q]? = wB.heap[q]?)) (by kernel_rfl) (by exact fun _ _ => rfl) (fun hHeld => ?_)
    refine wpAnyH_take (i := 0) rfl (by kernel_rfl) (by kernel_rfl) (by kernel_rfl) (fun _ _ _ h => h) (yieldsIf_load_mid (by rfl) 23 (.tmp 9) rfl (F) (0) rfl (bvals h2) _ (fun w h => ba_range (t := 23) ((h _ (by have := LN.out; omega)).trans YF.out)) Tryd.underlying23 rfl hir) (by assumption) ?_
    simp only [Act.put, List.getElem_toArray, List.getElem_cons_zero, List.setIfInBounds_toArray, List.set_cons_zero, List.set_cons_succ]
    refine wpAnyH_take (i := 1) rfl (by kernel_rfl) (by kernel_rfl) (by kernel_rfl) (fun _ _ _ h => h) (yieldsIf_load_mid (by rfl) 23 (.tmp 10) rfl (G) (0) rfl (bvals h1) _ (fun w h => ba_range (t := 23) ((h _ (by have := LN.out; omega)).trans YG.out)) Tryd.underlying23 rfl him) (by assumption) ?_
    simp only [Act.put, List.getElem_toArray, List.getElem_cons_succ, List.getElem_cons_zero, List.setIfInBounds_toArray, List.set_cons_zero, List.set_cons_succ]
    refine wpAnyH_take (i := 2) rfl (by kernel_rfl) (by kernel_rfl) (by kernel_rfl) (fun _ _ _ h => h) (yieldsIf_load_mid (by rfl) 30 (.tmp 7) rfl (A) (0) rfl (sg (n) L) _ (fun w h => sb_all (L := L) ((h _ (by have := LN.out; omega)).trans YA.out)) Tryd.underlying30 rfl (sg_info _ _ LM.out)) (by assumption) ?_
    simp only [Act.put, List.getElem_toArray, List.getElem_cons_succ, List.getElem_cons_zero, List.setIfInBounds_toArray, List.set_cons_zero, List.set_cons_succ]
    refine wpAnyH_take (i := 4) rfl (by kernel_rfl) (by kernel_rfl) (by kernel_rfl) (fun _ _ _ h => h) (yieldsIf_load_mid (by rfl) 23 (.tmp 9) rfl (F) (0) rfl (bvals h2) _ (fun w h => ba_range (t := 23) ((h _ (by have := LN.out; omega)).trans YF.out)) Tryd.underlying23 rfl hir) (by assumption) ?_
    simp only [Act.put, List.getElem_toArray, List.getElem_cons_succ, List.getElem_cons_zero, List.setIfInBounds_toArray, List.set_cons_zero, List.set_cons_succ]
    refine wpAnyH_take (i := 5) rfl (by kernel_rfl) (by kernel_rfl) (by kernel_rfl) (fun _ _ _ h => h) (yieldsIf_load_mid (by rfl) 23 (.tmp 10) rfl (G) (0) rfl (bvals h1) _ (fun w h => ba_range (t := 23) ((h _ (by have := LN.out; omega)).trans YG.out)) Tryd.underlying23 rfl him) (by assumption) ?_
    simp only [Act.put, List.getElem_toArray, List.getElem_cons_succ, List.getElem_cons_zero, List.setIfInBounds_toArray, List.set_cons_zero, List.set_cons_succ]
    refine wpAnyH_take (i := 6) rfl (by kernel_rfl) (by kernel_rfl) (by kernel_rfl) (fun _ _ _ h => h) (yieldsIf_load_mid (by rfl) 30 (.tmp 7) rfl (A) (0) rfl (sg (n) L) _ (fun w h => sb_all (L := L) ((h _ (by have := LN.out; omega)).trans YA.out)) Tryd.underlying30 rfl (sg_info _ _ LM.out)) (by assumption) ?_
    simp only [Act.put, List.getElem_toArray, List.getElem_cons_succ, List.getElem_cons_zero, List.setIfInBounds_toArray, List.set_cons_zero, List.set_cons_succ]
    refine wpAnyH_ready (rs := [3]) (by kernel_rfl) (by simp) ?_
    refine AllReadyH.cons rfl (fun K hK => ?_) AllReadyH.nil
    go_simp
    go_at_call 13
    refine (C13.out _ (KN.out _ XX.out)).mono ?_
    rintro e wc1 ⟨rfl, hba⟩
    have XN : Hid (Below N wB wc1) := XX.out.trans (hba.mono (by have := XX.out.size; have := WN.out; omega))
    clear XX hba hHeld
    have XX := XN
    clear XN
    (try go_wp2_with fail)
    refine hK.out _ _ (by exact fun q hq => XX.out.block q hq) (fun hHeld => ?_)
    clear hK K
    refine wpAnyH_ready (rs := [7]) (by kernel_rfl) (by simp) ?_
    refine AllReadyH.cons rfl (fun K hK => ?_) AllReadyH.nil
    go_simp
    go_at_call 14
    refine (C14.out _ (KN.out _ XX.out)).mono ?_
    rintro e wc2 ⟨rfl, hba⟩
    have XN : Hid (Below N wB wc2) := XX.out.trans (hba.mono (by have := XX.out.size; have := WN.out; omega))
    clear XX hba hHeld
    have XX := XN
    clear XN
    (try go_wp2_with fail)
    refine hK.out _ _ (by exact fun q hq => XX.out.block q hq) (fun hHeld => ?_)
    clear hK K
    refine wpAnyH_take (i := 8) (v := ?_) rfl (by kernel_rfl) (by kernel_rfl) (by kernel_rfl) (fun _ _ _ h => h) (Or.inl ⟨by rfl, ?_⟩) (by assumption) ?_
    rotate_left
    · (intro w hSw; (try dsimp only at hSw); go_simp; try with_reducible rfl)
    simp only [Act.put, List.getElem_toArray, List.getElem_cons_succ, List.getElem_cons_zero, List.setIfInBounds_toArray, List.set_cons_zero, List.set_cons_succ]
    refine wpAnyH_take (i := 9) (v := ?_) rfl (by kernel_rfl) (by kernel_rfl) (by kernel_rfl) (fun _ _ _ h => h) (Or.inl ⟨by rfl, ?_⟩) (by assumption) ?_
    rotate_left
    · (intro w hSw; (try dsimp only at hSw); go_simp; try with_reducible rfl)
    simp only [Act.put, List.getElem_toArray, List.getElem_cons_succ, List.getElem_cons_zero, List.setIfInBounds_toArray, List.set_cons_zero, List.set_cons_succ]
    refine wpAnyH_done (by kernel_rfl) ?_ _
    go_wp2
    go_ret
    exact ⟨rfl, by rw [HS.out]; exact KN.out _ XX.out⟩
  · go_wp2_with fail
    have y0 : Hid (SB (v4.setCell ⟨A, 0, none⟩ (.int .i64 ((q : Int)))) A ((q : Int)) L) := sb_idx YA.out _
    have y1 : Hid ((L).length = 280) := LS.out
    have y2 : Hid (BA (v4.setCell ⟨A, 0, none⟩ (.int .i64 ((q : Int)))) F 23 Q) := (heap_setCell_other v4 ⟨A, 0, none⟩ F _ (fun e => nAF.out e.symm)).trans YF.out
    have y3 : Hid (Q.length = 8) := LQ.out
    have y4 : Hid (BA (v4.setCell ⟨A, 0, none⟩ (.int .i64 ((q : Int)))) G 23 h1) := (heap_setCell_other v4 ⟨A, 0, none⟩ G _ (fun e => nAG.out e.symm)).trans YG.out
    have y5 : Hid (h1.length = 8) := L1.out
    have y6 : Hid (Byt h1) := BY1.out
    have y7 : Hid (Below S w (v4.setCell ⟨A, 0, none⟩ (.int .i64 ((q : Int))))) := B4.out.setCell AS2.out _
    clear HB NB YA YF YG B4 cp cq cA fA R0 R1 R2
    have YA := y0
    have LM := y1
    have YF := y2
    have LR := y3
    have YG := y4
    have LMM := y5
    have BM := y6
    have BB := y7
    clear y0 y1 y2 y3 y4 y5 y6 y7
    generalize (v4.setCell ⟨A, 0, none⟩ (.int .i64 ((q : Int)))) = wB at *
    have hir := inf23 Q LR.out
    have him := inf23 h1 LMM.out
    obtain ⟨N, hN⟩ : ∃ N, wB.heap.size = N := ⟨_, rfl⟩
    have WN : Hid (wB.heap.size = N) := hN
    have LN : Hid (A < N ∧ F < N ∧ G < N) := by show _ ∧ _; rw [← hN]; exact ⟨sb_lt YA.out, lt_of_block YF.out, lt_of_block YG.out⟩
    have KN : Hid (∀ w', Below N wB w' → Below S w w') := fun w' hb => BB.out.trans (hb.mono (by have := LN.out; have := AS2.out; omega))
    obtain ⟨v, hv⟩ : ∃ v, ckB Q h1 ((q : Int)) L = v := ⟨_, rfl⟩
    have C13 : Hid (∀ w', Below S w w' → Calls Tryd.prog 13 #[.agg (bvals Q).toArray, .agg (bvals h1).toArray, .agg (sg ((q : Int)) L).toArray] w' fun e w'' => e = .returned (.bool v) ∧ Below w'.heap.size w' w'') := fun w' hb => by
      have := kCheck Q h1 ((q : Int)) L w' (KW.out w' hb) LR.out LMM.out BM.out LM.out
      rw [hv, ba_bvals Q, ba_bvals h1] at this
      exact this
    have C14 : Hid (∀ w', Below S w w' → Calls Tryd.prog 14 #[.agg (bvals Q).toArray, .agg (bvals h1).toArray, .agg (sg ((q : Int)) L).toArray] w' fun e w'' => e = .returned (.bool v) ∧ Below w'.heap.size w' w'') := fun w' hb => by
      have := dCheck Q h1 ((q : Int)) L w' (KW.out w' hb) LR.out LMM.out BM.out LM.out
      rw [hv, ba_bvals Q, ba_bvals h1] at this
      exact this
    clear hv hN
    have XX : Hid (Below N wB wB.drew) := (Below.refl _ _).drew
    refine wp_region_held_drew (S := (fun w' : World => ∀ q, q < N → w'.heap[q]? = wB.heap[q]?)) (by kernel_rfl) (by exact fun _ _ => rfl) (fun hHeld => ?_)
    refine wpAnyH_take (i := 0) rfl (by kernel_rfl) (by kernel_rfl) (by kernel_rfl) (fun _ _ _ h => h) (yieldsIf_load_mid (by rfl) 23 (.tmp 9) rfl (F) (0) rfl (bvals Q) _ (fun w h => ba_range (t := 23) ((h _ (by have := LN.out; omega)).trans YF.out)) Tryd.underlying23 rfl hir) (by assumption) ?_
    simp only [Act.put, List.getElem_toArray, List.getElem_cons_zero, List.setIfInBounds_toArray, List.set_cons_zero, List.set_cons_succ]
    refine wpAnyH_take (i := 1) rfl (by kernel_rfl) (by kernel_rfl) (by kernel_rfl) (fun _ _ _ h => h) (yieldsIf_load_mid (by rfl) 23 (.tmp 10) rfl (G) (0) rfl (bvals h1) _ (fun w h => ba_range (t := 23) ((h _ (by have := LN.out; omega)).trans YG.out)) Tryd.underlying23 rfl him) (by assumption) ?_
    simp only [Act.put, List.getElem_toArray, List.getElem_cons_succ, List.getElem_cons_zero, List.setIfInBounds_toArray, List.set_cons_zero, List.set_cons_succ]
    refine wpAnyH_take (i := 2) rfl (by kernel_rfl) (by kernel_rfl) (by kernel_rfl) (fun _ _ _ h => h) (yieldsIf_load_mid (by rfl) 30 (.tmp 7) rfl (A) (0) rfl (sg ((q : Int)) L) _ (fun w h => sb_all (L := L) ((h _ (by have := LN.out; omega)).trans YA.out)) Tryd.underlying30 rfl (sg_info _ _ LM.out)) (by assumption) ?_
    simp only [Act.put, List.getElem_toArray, List.getElem_cons_succ, List.getElem_cons_zero, List.setIfInBounds_toArray, List.set_cons_zero, List.set_cons_succ]
    refine wpAnyH_take (i := 4) rfl (by kernel_rfl) (by kernel_rfl) (by kernel_rfl) (fun _ _ _ h => h) (yieldsIf_load_mid (by rfl) 23 (.tmp 9) rfl (F) (0) rfl (bvals Q) _ (fun w h => ba_range (t := 23) ((h _ (by have := LN.out; omega)).trans YF.out)) Tryd.underlying23 rfl hir) (by assumption) ?_
    simp only [Act.put, List.getElem_toArray, List.getElem_cons_succ, List.getElem_cons_zero, List.setIfInBounds_toArray, List.set_cons_zero, List.set_cons_succ]
    refine wpAnyH_take (i := 5) rfl (by kernel_rfl) (by kernel_rfl) (by kernel_rfl) (fun _ _ _ h => h) (yieldsIf_load_mid (by rfl) 23 (.tmp 10) rfl (G) (0) rfl (bvals h1) _ (fun w h => ba_range (t := 23) ((h _ (by have := LN.out; omega)).trans YG.out)) Tryd.underlying23 rfl him) (by assumption) ?_
    simp only [Act.put, List.getElem_toArray, List.getElem_cons_succ, List.getElem_cons_zero, List.setIfInBounds_toArray, List.set_cons_zero, List.set_cons_succ]
    refine wpAnyH_take (i := 6) rfl (by kernel_rfl) (by kernel_rfl) (by kernel_rfl) (fun _ _ _ h => h) (yieldsIf_load_mid (by rfl) 30 (.tmp 7) rfl (A) (0) rfl (sg ((q : Int)) L) _ (fun w h => sb_all (L := L) ((h _ (by have := LN.out; omega)).trans YA.out)) Tryd.underlying30 rfl (sg_info _ _ LM.out)) (by assumption) ?_
    simp only [Act.put, List.getElem_toArray, List.getElem_cons_succ, List.getElem_cons_zero, List.setIfInBounds_toArray, List.set_cons_zero, List.set_cons_succ]
    refine wpAnyH_ready (rs := [3]) (by kernel_rfl) (by simp) ?_
    refine AllReadyH.cons rfl (fun K hK => ?_) AllReadyH.nil
    go_simp
    go_at_call 13
    refine (C13.out _ (KN.out _ XX.out)).mono ?_
    rintro e wc1 ⟨rfl, hba⟩
    have XN : Hid (Below N wB wc1) := XX.out.trans (hba.mono (by have := XX.out.size; have := WN.out; omega))
    clear XX hba hHeld
    have XX := XN
    clear XN
    (try go_wp2_with fail)
    refine hK.out _ _ (by exact fun q hq => XX.out.block q hq) (fun hHeld => ?_)
    clear hK K
    refine wpAnyH_ready (rs := [7]) (by kernel_rfl) (by simp) ?_
    refine AllReadyH.cons rfl (fun K hK => ?_) AllReadyH.nil
    go_simp
    go_at_call 14
    refine (C14.out _ (KN.out _ XX.out)).mono ?_
    rintro e wc2 ⟨rfl, hba⟩
    have XN : Hid (Below N wB wc2) := XX.out.trans (hba.mono (by have := XX.out.size; have := WN.out; omega))
    clear XX hba hHeld
    have XX := XN
    clear XN
    (try go_wp2_with fail)
    refine hK.out _ _ (by exact fun q hq => XX.out.block q hq) (fun hHeld => ?_)
    clear hK K
    refine wpAnyH_take (i := 8) (v := ?_) rfl (by kernel_rfl) (by kernel_rfl) (by kernel_rfl) (fun _ _ _ h => h) (Or.inl ⟨by rfl, ?_⟩) (by assumption) ?_
    rotate_left
    · (intro w hSw; (try dsimp only at hSw); go_simp; try with_reducible rfl)
    simp only [Act.put, List.getElem_toArray, List.getElem_cons_succ, List.getElem_cons_zero, List.setIfInBounds_toArray, List.set_cons_zero, List.set_cons_succ]
    refine wpAnyH_take (i := 9) (v := ?_) rfl (by kernel_rfl) (by kernel_rfl) (by kernel_rfl) (fun _ _ _ h => h) (Or.inl ⟨by rfl, ?_⟩) (by assumption) ?_
    rotate_left
    · (intro w hSw; (try dsimp only at hSw); go_simp; try with_reducible rfl)
    simp only [Act.put, List.getElem_toArray, List.getElem_cons_succ, List.getElem_cons_zero, List.setIfInBounds_toArray, List.set_cons_zero, List.set_cons_succ]
    refine wpAnyH_done (by kernel_rfl) ?_ _
    go_wp2
    go_ret
    exact ⟨rfl, by rw [HS.out]; exact KN.out _ XX.out⟩
  · obtain ⟨k, hk⟩ : ∃ k, q % 16 = k := ⟨_, rfl⟩
    have hk2 : k < 16 := by omega
    have m1 : (q : Int).tmod 16 = (k : Int) := by rw [← hk]; simp [Int.tmod]
    have m2 : IntKind.u8.wrap (k : Int) = (k : Int) := by rw [IntKind.wrap_u8']; omega
    have m3 : (k : Int) < 16 := by omega
    have m4 : (0 : Int) ≤ (k : Int) := by omega
    go_wp2_with (first
     | (refine wpList_load_mid rfl 23 (.tmp 51) rfl S 16 rfl (bvals h2) _ (R2.out _ HB.out) Tryd.underlying23 rfl hi2 ?_; rw [← ba_bvals h2])
     | (refine wpList_store_mid rfl 23 (.tmp 54) (.tmp 52) rfl A (1 + k * 8) (ba h2) rfl rfl (by rw [ba_size, L2.out]; exact sb_there YA.out _ 8 (by rw [LS.out]; omega)) (sz s27 (by rw [ba_size, L2.out])) (ba_one _) ?_; rw [ba_toList])
     | fail)
    have y0 : Hid (SB (v4.setCells A (1 + k * 8) (bvals h2)) A (n) (splR L (0 + k * 8) h2)) := by have := sb_sets h2 (0 + k * 8) YA.out; rw [show 0 + k * 8 + 1 = 1 + k * 8 by omega] at this; exact this
    have y1 : Hid (((splR L (0 + k * 8) h2)).length = 280) := by show _ = _; rw [splR_len, LS.out]
    have y2 : Hid (BA (v4.setCells A (1 + k * 8) (bvals h2)) F 23 Q) := (heap_setCells (fun e => nAF.out e.symm) _ _ _).trans YF.out
    have y3 : Hid (Q.length = 8) := LQ.out
    have y4 : Hid (BA (v4.setCells A (1 + k * 8) (bvals h2)) G 23 h1) := (heap_setCells (fun e => nAG.out e.symm) _ _ _).trans YG.out
    have y5 : Hid (h1.length = 8) := L1.out
    have y6 : Hid (Byt h1) := BY1.out
    have y7 : Hid (Below S w (v4.setCells A (1 + k * 8) (bvals h2))) := below_setCells AS2.out _ _ B4.out
    clear HB NB YA YF YG B4 cp cq cA fA R0 R1 R2
    have YA := y0
    have LM := y1
    have YF := y2
    have LR := y3
    have YG := y4
    have LMM := y5
    have BM := y6
    have BB := y7
    clear y0 y1 y2 y3 y4 y5 y6 y7
    generalize (v4.setCells A (1 + k * 8) (bvals h2)) = wB at *
    generalize (splR L (0 + k * 8) h2) = M at *
    have hir := inf23 Q LR.out
    have him := inf23 h1 LMM.out
    obtain ⟨N, hN⟩ : ∃ N, wB.heap.size = N := ⟨_, rfl⟩
    have WN : Hid (wB.heap.size = N) := hN
    have LN : Hid (A < N ∧ F < N ∧ G < N) := by show _ ∧ _; rw [← hN]; exact ⟨sb_lt YA.out, lt_of_block YF.out, lt_of_block YG.out⟩
    have KN : Hid (∀ w', Below N wB w' → Below S w w') := fun w' hb => BB.out.trans (hb.mono (by have := LN.out; have := AS2.out; omega))
    obtain ⟨v, hv⟩ : ∃ v, ckB Q h1 (n) M = v := ⟨_, rfl⟩
    have C13 : Hid (∀ w', Below S w w' → Calls Tryd.prog 13 #[.agg (bvals Q).toArray, .agg (bvals h1).toArray, .agg (sg (n) M).toArray] w' fun e w'' => e = .returned (.bool v) ∧ Below w'.heap.size w' w'') := fun w' hb => by
      have := kCheck Q h1 (n) M w' (KW.out w' hb) LR.out LMM.out BM.out LM.out
      rw [hv, ba_bvals Q, ba_bvals h1] at this
      exact this
    have C14 : Hid (∀ w', Below S w w' → Calls Tryd.prog 14 #[.agg (bvals Q).toArray, .agg (bvals h1).toArray, .agg (sg (n) M).toArray] w' fun e w'' => e = .returned (.bool v) ∧ Below w'.heap.size w' w'') := fun w' hb => by
      have := dCheck Q h1 (n) M w' (KW.out w' hb) LR.out LMM.out BM.out LM.out
      rw [hv, ba_bvals Q, ba_bvals h1] at this
      exact this
    clear hv hN
    have XX : Hid (Below N wB wB.drew) := (Below.refl _ _).drew
    refine wp_region_held_drew (S := (fun w' : World => ∀ q, q < N → w'.heap[q]? = wB.heap[q]?)) (by kernel_rfl) (by exact fun _ _ => rfl) (fun hHeld => ?_)
    refine wpAnyH_take (i := 0) rfl (by kernel_rfl) (by kernel_rfl) (by kernel_rfl) (fun _ _ _ h => h) (yieldsIf_load_mid (by rfl) 23 (.tmp 9) rfl (F) (0) rfl (bvals Q) _ (fun w h => ba_range (t := 23) ((h _ (by have := LN.out; omega)).trans YF.out)) Tryd.underlying23 rfl hir) (by assumption) ?_
    simp only [Act.put, List.getElem_toArray, List.getElem_cons_zero, List.setIfInBounds_toArray, List.set_cons_zero, List.set_cons_succ]
    refine wpAnyH_take (i := 1) rfl (by kernel_rfl) (by kernel_rfl) (by kernel_rfl) (fun _ _ _ h => h) (yieldsIf_load_mid (by rfl) 23 (.tmp 10) rfl (G) (0) rfl (bvals h1) _ (fun w h => ba_range (t := 23) ((h _ (by have := LN.out; omega)).trans YG.out)) Tryd.underlying23 rfl him) (by assumption) ?_
    simp only [Act.put, List.getElem_toArray, List.getElem_cons_succ, List.getElem_cons_zero, List.setIfInBounds_toArray, List.set_cons_zero, List.set_cons_succ]
    refine wpAnyH_take (i := 2) rfl (by kernel_rfl) (by kernel_rfl) (by kernel_rfl) (fun _ _ _ h => h) (yieldsIf_load_mid (by rfl) 30 (.tmp 7) rfl (A) (0) rfl (sg (n) M) _ (fun w h => sb_all (L := M) ((h _ (by have := LN.out; omega)).trans YA.out)) Tryd.underlying30 rfl (sg_info _ _ LM.out)) (by assumption) ?_
    simp only [Act.put, List.getElem_toArray, List.getElem_cons_succ, List.getElem_cons_zero, List.setIfInBounds_toArray, List.set_cons_zero, List.set_cons_succ]
    refine wpAnyH_take (i := 4) rfl (by kernel_rfl) (by kernel_rfl) (by kernel_rfl) (fun _ _ _ h => h) (yieldsIf_load_mid (by rfl) 23 (.tmp 9) rfl (F) (0) rfl (bvals Q) _ (fun w h => ba_range (t := 23) ((h _ (by have := LN.out; omega)).trans YF.out)) Tryd.underlying23 rfl hir) (by assumption) ?_
    simp only [Act.put, List.getElem_toArray, List.getElem_cons_succ, List.getElem_cons_zero, List.setIfInBounds_toArray, List.set_cons_zero, List.set_cons_succ]
    refine wpAnyH_take (i := 5) rfl (by kernel_rfl) (by kernel_rfl) (by kernel_rfl) (fun _ _ _ h => h) (yieldsIf_load_mid (by rfl) 23 (.tmp 10) rfl (G) (0) rfl (bvals h1) _ (fun w h => ba_range (t := 23) ((h _ (by have := LN.out; omega)).trans YG.out)) Tryd.underlying23 rfl him) (by assumption) ?_
    simp only [Act.put, List.getElem_toArray, List.getElem_cons_succ, List.getElem_cons_zero, List.setIfInBounds_toArray, List.set_cons_zero, List.set_cons_succ]
    refine wpAnyH_take (i := 6) rfl (by kernel_rfl) (by kernel_rfl) (by kernel_rfl) (fun _ _ _ h => h) (yieldsIf_load_mid (by rfl) 30 (.tmp 7) rfl (A) (0) rfl (sg (n) M) _ (fun w h => sb_all (L := M) ((h _ (by have := LN.out; omega)).trans YA.out)) Tryd.underlying30 rfl (sg_info _ _ LM.out)) (by assumption) ?_
    simp only [Act.put, List.getElem_toArray, List.getElem_cons_succ, List.getElem_cons_zero, List.setIfInBounds_toArray, List.set_cons_zero, List.set_cons_succ]
    refine wpAnyH_ready (rs := [3]) (by kernel_rfl) (by simp) ?_
    refine AllReadyH.cons rfl (fun K hK => ?_) AllReadyH.nil
    go_simp
    go_at_call 13
    refine (C13.out _ (KN.out _ XX.out)).mono ?_
    rintro e wc1 ⟨rfl, hba⟩
    have XN : Hid (Below N wB wc1) := XX.out.trans (hba.mono (by have := XX.out.size; have := WN.out; omega))
    clear XX hba hHeld
    have XX := XN
    clear XN
    (try go_wp2_with fail)
    refine hK.out _ _ (by exact fun q hq => XX.out.block q hq) (fun hHeld => ?_)
    clear hK K
    refine wpAnyH_ready (rs := [7]) (by kernel_rfl) (by simp) ?_
    refine AllReadyH.cons rfl (fun K hK => ?_) AllReadyH.nil
    go_simp
    go_at_call 14
    refine (C14.out _ (KN.out _ XX.out)).mono ?_
    rintro e wc2 ⟨rfl, hba⟩
    have XN : Hid (Below N wB wc2) := XX.out.trans (hba.mono (by have := XX.out.size; have := WN.out; omega))
    clear XX hba hHeld
    have XX := XN
    clear XN
    (try go_wp2_with fail)
    refine hK.out _ _ (by exact fun q hq => XX.out.block q hq) (fun hHeld => ?_)
    clear hK K
    refine wpAnyH_take (i := 8) (v := ?_) rfl (by kernel_rfl) (by kernel_rfl) (by kernel_rfl) (fun _ _ _ h => h) (Or.inl ⟨by rfl, ?_⟩) (by assumption) ?_
    rotate_left
    · (intro w hSw; (try dsimp only at hSw); go_simp; try with_reducible rfl)
    simp only [Act.put, List.getElem_toArray, List.getElem_cons_succ, List.getElem_cons_zero, List.setIfInBounds_toArray, List.set_cons_zero, List.set_cons_succ]
    refine wpAnyH_take (i := 9) (v := ?_) rfl (by kernel_rfl) (by kernel_rfl) (by kernel_rfl) (fun _ _ _ h => h) (Or.inl ⟨by rfl, ?_⟩) (by assumption) ?_
    rotate_left
    · (intro w hSw; (try dsimp only at hSw); go_simp; try with_reducible rfl)
    simp only [Act.put, List.getElem_toArray, List.getElem_cons_succ, List.getElem_cons_zero, List.setIfInBounds_toArray, List.set_cons_zero, List.set_cons_succ]
    refine wpAnyH_done (by kernel_rfl) ?_ _
    go_wp2
    go_ret
    exact ⟨rfl, by rw [HS.out]; exact KN.out _ XX.out⟩
  · obtain ⟨k, hk⟩ : ∃ k, q % 16 = k := ⟨_, rfl⟩
    have hk2 : k < 16 := by omega
    have m1 : (q : Int).tmod 16 = (k : Int) := by rw [← hk]; simp [Int.tmod]
    have m2 : IntKind.u8.wrap (k : Int) = (k : Int) := by rw [IntKind.wrap_u8']; omega
    have m3 : (k : Int) < 16 := by omega
    have m4 : (0 : Int) ≤ (k : Int) := by omega
    go_wp2_with (first
     | (refine wpList_load_mid rfl 23 (.tmp 60) rfl S 16 rfl (bvals h2) _ (R2.out _ HB.out) Tryd.underlying23 rfl hi2 ?_; rw [← ba_bvals h2])
     | (refine wpList_store_mid rfl 23 (.tmp 63) (.tmp 61) rfl A (129 + k * 8) (ba h2) rfl rfl (by rw [ba_size, L2.out]; exact sb_there YA.out _ 8 (by rw [LS.out]; omega)) (sz s27 (by rw [ba_size, L2.out])) (ba_one _) ?_; rw [ba_toList])
     | fail)
    have y0 : Hid (SB (v4.setCells A (129 + k * 8) (bvals h2)) A (n) (splR L (128 + k * 8) h2)) := by have := sb_sets h2 (128 + k * 8) YA.out; rw [show 128 + k * 8 + 1 = 129 + k * 8 by omega] at this; exact this
    have y1 : Hid (((splR L (128 + k * 8) h2)).length = 280) := by show _ = _; rw [splR_len, LS.out]
    have y2 : Hid (BA (v4.setCells A (129 + k * 8) (bvals h2)) F 23 Q) := (heap_setCells (fun e => nAF.out e.symm) _ _ _).trans YF.out
    have y3 : Hid (Q.length = 8) := LQ.out
    have y4 : Hid (BA (v4.setCells A (129 + k * 8) (bvals h2)) G 23 h1) := (heap_setCells (fun e => nAG.out e.symm) _ _ _).trans YG.out
    have y5 : Hid (h1.length = 8) := L1.out
    have y6 : Hid (Byt h1) := BY1.out
    have y7 : Hid (Below S w (v4.setCells A (129 + k * 8) (bvals h2))) := below_setCells AS2.out _ _ B4.out
    clear HB NB YA YF YG B4 cp cq cA fA R0 R1 R2
    have YA := y0
    have LM := y1
    have YF := y2
    have LR := y3
    have YG := y4
    have LMM := y5
    have BM := y6
    have BB := y7
    clear y0 y1 y2 y3 y4 y5 y6 y7
    generalize (v4.setCells A (129 + k * 8) (bvals h2)) = wB at *
    generalize (splR L (128 + k * 8) h2) = M at *
    have hir := inf23 Q LR.out
    have him := inf23 h1 LMM.out
    obtain ⟨N, hN⟩ : ∃ N, wB.heap.size = N := ⟨_, rfl⟩
    have WN : Hid (wB.heap.size = N) := hN
    have LN : Hid (A < N ∧ F < N ∧ G < N) := by show _ ∧ _; rw [← hN]; exact ⟨sb_lt YA.out, lt_of_block YF.out, lt_of_block YG.out⟩
    have KN : Hid (∀ w', Below N wB w' → Below S w w') := fun w' hb => BB.out.trans (hb.mono (by have := LN.out; have := AS2.out; omega))
    obtain ⟨v, hv⟩ : ∃ v, ckB Q h1 (n) M = v := ⟨_, rfl⟩
    have C13 : Hid (∀ w', Below S w w' → Calls Tryd.prog 13 #[.agg (bvals Q).toArray, .agg (bvals h1).toArray, .agg (sg (n) M).toArray] w' fun e w'' => e = .returned (.bool v) ∧ Below w'.heap.size w' w'') := fun w' hb => by
      have := kCheck Q h1 (n) M w' (KW.out w' hb) LR.out LMM.out BM.out LM.out
      rw [hv, ba_bvals Q, ba_bvals h1] at this
      exact this
    have C14 : Hid (∀ w', Below S w w' → Calls Tryd.prog 14 #[.agg (bvals Q).toArray, .agg (bvals h1).toArray, .agg (sg (n) M).toArray] w' fun e w'' => e = .returned (.bool v) ∧ Below w'.heap.size w' w'') := fun w' hb => by
      have := dCheck Q h1 (n) M w' (KW.out w' hb) LR.out LMM.out BM.out LM.out
      rw [hv, ba_bvals Q, ba_bvals h1] at this
      exact this
    clear hv hN
    have XX : Hid (Below N wB wB.drew) := (Below.refl _ _).drew
    refine wp_region_held_drew (S := (fun w' : World => ∀ q, q < N → w'.heap[q]? = wB.heap[q]?)) (by kernel_rfl) (by exact fun _ _ => rfl) (fun hHeld => ?_)
    refine wpAnyH_take (i := 0) rfl (by kernel_rfl) (by kernel_rfl) (by kernel_rfl) (fun _ _ _ h => h) (yieldsIf_load_mid (by rfl) 23 (.tmp 9) rfl (F) (0) rfl (bvals Q) _ (fun w h => ba_range (t := 23) ((h _ (by have := LN.out; omega)).trans YF.out)) Tryd.underlying23 rfl hir) (by assumption) ?_
    simp only [Act.put, List.getElem_toArray, List.getElem_cons_zero, List.setIfInBounds_toArray, List.set_cons_zero, List.set_cons_succ]
    refine wpAnyH_take (i := 1) rfl (by kernel_rfl) (by kernel_rfl) (by kernel_rfl) (fun _ _ _ h => h) (yieldsIf_load_mid (by rfl) 23 (.tmp 10) rfl (G) (0) rfl (bvals h1) _ (fun w h => ba_range (t := 23) ((h _ (by have := LN.out; omega)).trans YG.out)) Tryd.underlying23 rfl him) (by assumption) ?_
    simp only [Act.put, List.getElem_toArray, List.getElem_cons_succ, List.getElem_cons_zero, List.setIfInBounds_toArray, List.set_cons_zero, List.set_cons_succ]
    refine wpAnyH_take (i := 2) rfl (by kernel_rfl) (by kernel_rfl) (by kernel_rfl) (fun _ _ _ h => h) (yieldsIf_load_mid (by rfl) 30 (.tmp 7) rfl (A) (0) rfl (sg (n) M) _ (fun w h => sb_all (L := M) ((h _ (by have := LN.out; omega)).trans YA.out)) Tryd.underlying30 rfl (sg_info _ _ LM.out)) (by assumption) ?_
    simp only [Act.put, List.getElem_toArray, List.getElem_cons_succ, List.getElem_cons_zero, List.setIfInBounds_toArray, List.set_cons_zero, List.set_cons_succ]
    refine wpAnyH_take (i := 4) rfl (by kernel_rfl) (by kernel_rfl) (by kernel_rfl) (fun _ _ _ h => h) (yieldsIf_load_mid (by rfl) 23 (.tmp 9) rfl (F) (0) rfl (bvals Q) _ (fun w h => ba_range (t := 23) ((h _ (by have := LN.out; omega)).trans YF.out)) Tryd.underlying23 rfl hir) (by assumption) ?_
    simp only [Act.put, List.getElem_toArray, List.getElem_cons_succ, List.getElem_cons_zero, List.setIfInBounds_toArray, List.set_cons_zero, List.set_cons_succ]
    refine wpAnyH_take (i := 5) rfl (by kernel_rfl) (by kernel_rfl) (by kernel_rfl) (fun _ _ _ h => h) (yieldsIf_load_mid (by rfl) 23 (.tmp 10) rfl (G) (0) rfl (bvals h1) _ (fun w h => ba_range (t := 23) ((h _ (by have := LN.out; omega)).trans YG.out)) Tryd.underlying23 rfl him) (by assumption) ?_
    simp only [Act.put, List.getElem_toArray, List.getElem_cons_succ, List.getElem_cons_zero, List.setIfInBounds_toArray, List.set_cons_zero, List.set_cons_succ]
    refine wpAnyH_take (i := 6) rfl (by kernel_rfl) (by kernel_rfl) (by kernel_rfl) (fun _ _ _ h => h) (yieldsIf_load_mid (by rfl) 30 (.tmp 7) rfl (A) (0) rfl (sg (n) M) _ (fun w h => sb_all (L := M) ((h _ (by have := LN.out; omega)).trans YA.out)) Tryd.underlying30 rfl (sg_info _ _ LM.out)) (by assumption) ?_
    simp only [Act.put, List.getElem_toArray, List.getElem_cons_succ, List.getElem_cons_zero, List.setIfInBounds_toArray, List.set_cons_zero, List.set_cons_succ]
    refine wpAnyH_ready (rs := [3]) (by kernel_rfl) (by simp) ?_
    refine AllReadyH.cons rfl (fun K hK => ?_) AllReadyH.nil
    go_simp
    go_at_call 13
    refine (C13.out _ (KN.out _ XX.out)).mono ?_
    rintro e wc1 ⟨rfl, hba⟩
    have XN : Hid (Below N wB wc1) := XX.out.trans (hba.mono (by have := XX.out.size; have := WN.out; omega))
    clear XX hba hHeld
    have XX := XN
    clear XN
    (try go_wp2_with fail)
    refine hK.out _ _ (by exact fun q hq => XX.out.block q hq) (fun hHeld => ?_)
    clear hK K
    refine wpAnyH_ready (rs := [7]) (by kernel_rfl) (by simp) ?_
    refine AllReadyH.cons rfl (fun K hK => ?_) AllReadyH.nil
    go_simp
    go_at_call 14
    refine (C14.out _ (KN.out _ XX.out)).mono ?_
    rintro e wc2 ⟨rfl, hba⟩
    have XN : Hid (Below N wB wc2) := XX.out.trans (hba.mono (by have := XX.out.size; have := WN.out; omega))
    clear XX hba hHeld
    have XX := XN
    clear XN
    (try go_wp2_with fail)
    refine hK.out _ _ (by exact fun q hq => XX.out.block q hq) (fun hHeld => ?_)
    clear hK K
    refine wpAnyH_take (i := 8) (v := ?_) rfl (by kernel_rfl) (by kernel_rfl) (by kernel_rfl) (fun _ _ _ h => h) (Or.inl ⟨by rfl, ?_⟩) (by assumption) ?_
    rotate_left
    · (intro w hSw; (try dsimp only at hSw); go_simp; try with_reducible rfl)
    simp only [Act.put, List.getElem_toArray, List.getElem_cons_succ, List.getElem_cons_zero, List.setIfInBounds_toArray, List.set_cons_zero, List.set_cons_succ]
    refine wpAnyH_take (i := 9) (v := ?_) rfl (by kernel_rfl) (by kernel_rfl) (by kernel_rfl) (fun _ _ _ h => h) (Or.inl ⟨by rfl, ?_⟩) (by assumption) ?_
    rotate_left
    · (intro w hSw; (try dsimp only at hSw); go_simp; try with_reducible rfl)
    simp only [Act.put, List.getElem_toArray, List.getElem_cons_succ, List.getElem_cons_zero, List.setIfInBounds_toArray, List.set_cons_zero, List.set_cons_succ]
    refine wpAnyH_done (by kernel_rfl) ?_ _
    go_wp2
    go_ret
    exact ⟨rfl, by rw [HS.out]; exact KN.out _ XX.out⟩
  · obtain ⟨k, hk⟩ : ∃ k, q % 3 = k := ⟨_, rfl⟩
    have hk2 : k < 3 := by omega
    have m1 : (q : Int).tmod 3 = (k : Int) := by rw [← hk]; simp [Int.tmod]
    have m2 : IntKind.u8.wrap (k : Int) = (k : Int) := by rw [IntKind.wrap_u8']; omega
    have m3 : (k : Int) < 3 := by omega
    have m4 : (0 : Int) ≤ (k : Int) := by omega
    go_wp2_with (first
     | (refine wpList_load_mid rfl 23 (.tmp 69) rfl S 16 rfl (bvals h2) _ (R2.out _ HB.out) Tryd.underlying23 rfl hi2 ?_; rw [← ba_bvals h2])
     | (refine wpList_store_mid rfl 23 (.tmp 72) (.tmp 70) rfl A (257 + k * 8) (ba h2) rfl rfl (by rw [ba_size, L2.out]; exact sb_there YA.out _ 8 (by rw [LS.out]; omega)) (sz s27 (by rw [ba_size, L2.out])) (ba_one _) ?_; rw [ba_toList])
     | fail)
    have y0 : Hid (SB (v4.setCells A (257 + k * 8) (bvals h2)) A (n) (splR L (256 + k * 8) h2)) := by have := sb_sets h2 (256 + k * 8) YA.out; rw [show 256 + k * 8 + 1 = 257 + k * 8 by omega] at this; exact this
    have y1 : Hid (((splR L (256 + k * 8) h2)).length = 280) := by show _ = _; rw [splR_len, LS.out]
    have y2 : Hid (BA (v4.setCells A (257 + k * 8) (bvals h2)) F 23 Q) := (heap_setCells (fun e => nAF.out e.symm) _ _ _).trans YF.out
    have y3 : Hid (Q.length = 8) := LQ.out
    have y4 : Hid (BA (v4.setCells A (257 + k * 8) (bvals h2)) G 23 h1) := (heap_setCells (fun e => nAG.out e.symm) _ _ _).trans YG.out
    have y5 : Hid (h1.length = 8) := L1.out
    have y6 : Hid (Byt h1) := BY1.out
    have y7 : Hid (Below S w (v4.setCells A (257 + k * 8) (bvals h2))) := below_setCells AS2.out _ _ B4.out
    clear HB NB YA YF YG B4 cp cq cA fA R0 R1 R2
    have YA := y0
    have LM := y1
    have YF := y2
    have LR := y3
    have YG := y4
    have LMM := y5
    have BM := y6
    have BB := y7
    clear y0 y1 y2 y3 y4 y5 y6 y7
    generalize (v4.setCells A (257 + k * 8) (bvals h2)) = wB at *
    generalize (splR L (256 + k * 8) h2) = M at *
    have hir := inf23 Q LR.out
    have him := inf23 h1 LMM.out
    obtain ⟨N, hN⟩ : ∃ N, wB.heap.size = N := ⟨_, rfl⟩
    have WN : Hid (wB.heap.size = N) := hN
    have LN : Hid (A < N ∧ F < N ∧ G < N) := by show _ ∧ _; rw [← hN]; exact ⟨sb_lt YA.out, lt_of_block YF.out, lt_of_block YG.out⟩
    have KN : Hid (∀ w', Below N wB w' → Below S w w') := fun w' hb => BB.out.trans (hb.mono (by have := LN.out; have := AS2.out; omega))
    obtain ⟨v, hv⟩ : ∃ v, ckB Q h1 (n) M = v := ⟨_, rfl⟩
    have C13 : Hid (∀ w', Below S w w' → Calls Tryd.prog 13 #[.agg (bvals Q).toArray, .agg (bvals h1).toArray, .agg (sg (n) M).toArray] w' fun e w'' => e = .returned (.bool v) ∧ Below w'.heap.size w' w'') := fun w' hb => by
      have := kCheck Q h1 (n) M w' (KW.out w' hb) LR.out LMM.out BM.out LM.out
      rw [hv, ba_bvals Q, ba_bvals h1] at this
      exact this
    have C14 : Hid (∀ w', Below S w w' → Calls Tryd.prog 14 #[.agg (bvals Q).toArray, .agg (bvals h1).toArray, .agg (sg (n) M).toArray] w' fun e w'' => e = .returned (.bool v) ∧ Below w'.heap.size w' w'') := fun w' hb => by
      have := dCheck Q h1 (n) M w' (KW.out w' hb) LR.out LMM.out BM.out LM.out
      rw [hv, ba_bvals Q, ba_bvals h1] at this
      exact this
    clear hv hN
    have XX : Hid (Below N wB wB.drew) := (Below.refl _ _).drew
    refine wp_region_held_drew (S := (fun w' : World => ∀ q, q < N → w'.heap[q]? = wB.heap[q]?)) (by kernel_rfl) (by exact fun _ _ => rfl) (fun hHeld => ?_)
    refine wpAnyH_take (i := 0) rfl (by kernel_rfl) (by kernel_rfl) (by kernel_rfl) (fun _ _ _ h => h) (yieldsIf_load_mid (by rfl) 23 (.tmp 9) rfl (F) (0) rfl (bvals Q) _ (fun w h => ba_range (t := 23) ((h _ (by have := LN.out; omega)).trans YF.out)) Tryd.underlying23 rfl hir) (by assumption) ?_
    simp only [Act.put, List.getElem_toArray, List.getElem_cons_zero, List.setIfInBounds_toArray, List.set_cons_zero, List.set_cons_succ]
    refine wpAnyH_take (i := 1) rfl (by kernel_rfl) (by kernel_rfl) (by kernel_rfl) (fun _ _ _ h => h) (yieldsIf_load_mid (by rfl) 23 (.tmp 10) rfl (G) (0) rfl (bvals h1) _ (fun w h => ba_range (t := 23) ((h _ (by have := LN.out; omega)).trans YG.out)) Tryd.underlying23 rfl him) (by assumption) ?_
    simp only [Act.put, List.getElem_toArray, List.getElem_cons_succ, List.getElem_cons_zero, List.setIfInBounds_toArray, List.set_cons_zero, List.set_cons_succ]
    refine wpAnyH_take (i := 2) rfl (by kernel_rfl) (by kernel_rfl) (by kernel_rfl) (fun _ _ _ h => h) (yieldsIf_load_mid (by rfl) 30 (.tmp 7) rfl (A) (0) rfl (sg (n) M) _ (fun w h => sb_all (L := M) ((h _ (by have := LN.out; omega)).trans YA.out)) Tryd.underlying30 rfl (sg_info _ _ LM.out)) (by assumption) ?_
    simp only [Act.put, List.getElem_toArray, List.getElem_cons_succ, List.getElem_cons_zero, List.setIfInBounds_toArray, List.set_cons_zero, List.set_cons_succ]
    refine wpAnyH_take (i := 4) rfl (by kernel_rfl) (by kernel_rfl) (by kernel_rfl) (fun _ _ _ h => h) (yieldsIf_load_mid (by rfl) 23 (.tmp 9) rfl (F) (0) rfl (bvals Q) _ (fun w h => ba_range (t := 23) ((h _ (by have := LN.out; omega)).trans YF.out)) Tryd.underlying23 rfl hir) (by assumption) ?_
    simp only [Act.put, List.getElem_toArray, List.getElem_cons_succ, List.getElem_cons_zero, List.setIfInBounds_toArray, List.set_cons_zero, List.set_cons_succ]
    refine wpAnyH_take (i := 5) rfl (by kernel_rfl) (by kernel_rfl) (by kernel_rfl) (fun _ _ _ h => h) (yieldsIf_load_mid (by rfl) 23 (.tmp 10) rfl (G) (0) rfl (bvals h1) _ (fun w h => ba_range (t := 23) ((h _ (by have := LN.out; omega)).trans YG.out)) Tryd.underlying23 rfl him) (by assumption) ?_
    simp only [Act.put, List.getElem_toArray, List.getElem_cons_succ, List.getElem_cons_zero, List.setIfInBounds_toArray, List.set_cons_zero, List.set_cons_succ]
    refine wpAnyH_take (i := 6) rfl (by kernel_rfl) (by kernel_rfl) (by kernel_rfl) (fun _ _ _ h => h) (yieldsIf_load_mid (by rfl) 30 (.tmp 7) rfl (A) (0) rfl (sg (n) M) _ (fun w h => sb_all (L := M) ((h _ (by have := LN.out; omega)).trans YA.out)) Tryd.underlying30 rfl (sg_info _ _ LM.out)) (by assumption) ?_
    simp only [Act.put, List.getElem_toArray, List.getElem_cons_succ, List.getElem_cons_zero, List.setIfInBounds_toArray, List.set_cons_zero, List.set_cons_succ]
    refine wpAnyH_ready (rs := [3]) (by kernel_rfl) (by simp) ?_
    refine AllReadyH.cons rfl (fun K hK => ?_) AllReadyH.nil
    go_simp
    go_at_call 13
    refine (C13.out _ (KN.out _ XX.out)).mono ?_
    rintro e wc1 ⟨rfl, hba⟩
    have XN : Hid (Below N wB wc1) := XX.out.trans (hba.mono (by have := XX.out.size; have := WN.out; omega))
    clear XX hba hHeld
    have XX := XN
    clear XN
    (try go_wp2_with fail)
    refine hK.out _ _ (by exact fun q hq => XX.out.block q hq) (fun hHeld => ?_)
    clear hK K
    refine wpAnyH_ready (rs := [7]) (by kernel_rfl) (by simp) ?_
    refine AllReadyH.cons rfl (fun K hK => ?_) AllReadyH.nil
    go_simp
    go_at_call 14
    refine (C14.out _ (KN.out _ XX.out)).mono ?_
    rintro e wc2 ⟨rfl, hba⟩
    have XN : Hid (Below N wB wc2) := XX.out.trans (hba.mono (by have := XX.out.size; have := WN.out; omega))
    clear XX hba hHeld
    have XX := XN
    clear XN
    (try go_wp2_with fail)
    refine hK.out _ _ (by exact fun q hq => XX.out.block q hq) (fun hHeld => ?_)
    clear hK K
    refine wpAnyH_take (i := 8) (v := ?_) rfl (by kernel_rfl) (by kernel_rfl) (by kernel_rfl) (fun _ _ _ h => h) (Or.inl ⟨by rfl, ?_⟩) (by assumption) ?_
    rotate_left
    · (intro w hSw; (try dsimp only at hSw); go_simp; try with_reducible rfl)
    simp only [Act.put, List.getElem_toArray, List.getElem_cons_succ, List.getElem_cons_zero, List.setIfInBounds_toArray, List.set_cons_zero, List.set_cons_succ]
    refine wpAnyH_take (i := 9) (v := ?_) rfl (by kernel_rfl) (by kernel_rfl) (by kernel_rfl) (fun _ _ _ h => h) (Or.inl ⟨by rfl, ?_⟩) (by assumption) ?_
    rotate_left
    · (intro w hSw; (try dsimp only at hSw); go_simp; try with_reducible rfl)
    simp only [Act.put, List.getElem_toArray, List.getElem_cons_succ, List.getElem_cons_zero, List.setIfInBounds_toArray, List.set_cons_zero, List.set_cons_succ]
    refine wpAnyH_done (by kernel_rfl) ?_ _
    go_wp2
    go_ret
    exact ⟨rfl, by rw [HS.out]; exact KN.out _ XX.out⟩
  · go_wp2_with fail
    have y0 : Hid (SB (v4.setCell ⟨A, 0, none⟩ (.int .i64 (-1 - (q : Int)))) A (-1 - (q : Int)) L) := sb_idx YA.out _
    have y1 : Hid ((L).length = 280) := LS.out
    have y2 : Hid (BA (v4.setCell ⟨A, 0, none⟩ (.int .i64 (-1 - (q : Int)))) F 23 Q) := (heap_setCell_other v4 ⟨A, 0, none⟩ F _ (fun e => nAF.out e.symm)).trans YF.out
    have y3 : Hid (Q.length = 8) := LQ.out
    have y4 : Hid (BA (v4.setCell ⟨A, 0, none⟩ (.int .i64 (-1 - (q : Int)))) G 23 h1) := (heap_setCell_other v4 ⟨A, 0, none⟩ G _ (fun e => nAG.out e.symm)).trans YG.out
    have y5 : Hid (h1.length = 8) := L1.out
    have y6 : Hid (Byt h1) := BY1.out
    have y7 : Hid (Below S w (v4.setCell ⟨A, 0, none⟩ (.int .i64 (-1 - (q : Int))))) := B4.out.setCell AS2.out _
    clear HB NB YA YF YG B4 cp cq cA fA R0 R1 R2
    have YA := y0
    have LM := y1
    have YF := y2
    have LR := y3
    have YG := y4
    have LMM := y5
    have BM := y6
    have BB := y7
    clear y0 y1 y2 y3 y4 y5 y6 y7
    generalize (v4.setCell ⟨A, 0, none⟩ (.int .i64 (-1 - (q : Int)))) = wB at *
    have hir := inf23 Q LR.out
    have him := inf23 h1 LMM.out
    obtain ⟨N, hN⟩ : ∃ N, wB.heap.size = N := ⟨_, rfl⟩
    have WN : Hid (wB.heap.size = N) := hN
    have LN : Hid (A < N ∧ F < N ∧ G < N) := by show _ ∧ _; rw [← hN]; exact ⟨sb_lt YA.out, lt_of_block YF.out, lt_of_block YG.out⟩
    have KN : Hid (∀ w', Below N wB w' → Below S w w') := fun w' hb => BB.out.trans (hb.mono (by have := LN.out; have := AS2.out; omega))
    obtain ⟨v, hv⟩ : ∃ v, ckB Q h1 (-1 - (q : Int)) L = v := ⟨_, rfl⟩
    have C13 : Hid (∀ w', Below S w w' → Calls Tryd.prog 13 #[.agg (bvals Q).toArray, .agg (bvals h1).toArray, .agg (sg (-1 - (q : Int)) L).toArray] w' fun e w'' => e = .returned (.bool v) ∧ Below w'.heap.size w' w'') := fun w' hb => by
      have := kCheck Q h1 (-1 - (q : Int)) L w' (KW.out w' hb) LR.out LMM.out BM.out LM.out
      rw [hv, ba_bvals Q, ba_bvals h1] at this
      exact this
    have C14 : Hid (∀ w', Below S w w' → Calls Tryd.prog 14 #[.agg (bvals Q).toArray, .agg (bvals h1).toArray, .agg (sg (-1 - (q : Int)) L).toArray] w' fun e w'' => e = .returned (.bool v) ∧ Below w'.heap.size w' w'') := fun w' hb => by
      have := dCheck Q h1 (-1 - (q : Int)) L w' (KW.out w' hb) LR.out LMM.out BM.out LM.out
      rw [hv, ba_bvals Q, ba_bvals h1] at this
      exact this
    clear hv hN
    have XX : Hid (Below N wB wB.drew) := (Below.refl _ _).drew
    refine wp_region_held_drew (S := (fun w' : World => ∀ q, q < N → w'.heap[q]? = wB.heap[q]?)) (by kernel_rfl) (by exact fun _ _ => rfl) (fun hHeld => ?_)
    refine wpAnyH_take (i := 0) rfl (by kernel_rfl) (by kernel_rfl) (by kernel_rfl) (fun _ _ _ h => h) (yieldsIf_load_mid (by rfl) 23 (.tmp 9) rfl (F) (0) rfl (bvals Q) _ (fun w h => ba_range (t := 23) ((h _ (by have := LN.out; omega)).trans YF.out)) Tryd.underlying23 rfl hir) (by assumption) ?_
    simp only [Act.put, List.getElem_toArray, List.getElem_cons_zero, List.setIfInBounds_toArray, List.set_cons_zero, List.set_cons_succ]
    refine wpAnyH_take (i := 1) rfl (by kernel_rfl) (by kernel_rfl) (by kernel_rfl) (fun _ _ _ h => h) (yieldsIf_load_mid (by rfl) 23 (.tmp 10) rfl (G) (0) rfl (bvals h1) _ (fun w h => ba_range (t := 23) ((h _ (by have := LN.out; omega)).trans YG.out)) Tryd.underlying23 rfl him) (by assumption) ?_
    simp only [Act.put, List.getElem_toArray, List.getElem_cons_succ, List.getElem_cons_zero, List.setIfInBounds_toArray, List.set_cons_zero, List.set_cons_succ]
    refine wpAnyH_take (i := 2) rfl (by kernel_rfl) (by kernel_rfl) (by kernel_rfl) (fun _ _ _ h => h) (yieldsIf_load_mid (by rfl) 30 (.tmp 7) rfl (A) (0) rfl (sg (-1 - (q : Int)) L) _ (fun w h => sb_all (L := L) ((h _ (by have := LN.out; omega)).trans YA.out)) Tryd.underlying30 rfl (sg_info _ _ LM.out)) (by assumption) ?_
    simp only [Act.put, List.getElem_toArray, List.getElem_cons_succ, List.getElem_cons_zero, List.setIfInBounds_toArray, List.set_cons_zero, List.set_cons_succ]
    refine wpAnyH_take (i := 4) rfl (by kernel_rfl) (by kernel_rfl) (by kernel_rfl) (fun _ _ _ h => h) (yieldsIf_load_mid (by rfl) 23 (.tmp 9) rfl (F) (0) rfl (bvals Q) _ (fun w h => ba_range (t := 23) ((h _ (by have := LN.out; omega)).trans YF.out)) Tryd.underlying23 rfl hir) (by assumption) ?_
    simp only [Act.put, List.getElem_toArray, List.getElem_cons_succ, List.getElem_cons_zero, List.setIfInBounds_toArray, List.set_cons_zero, List.set_cons_succ]
    refine wpAnyH_take (i := 5) rfl (by kernel_rfl) (by kernel_rfl) (by kernel_rfl) (fun _ _ _ h => h) (yieldsIf_load_mid (by rfl) 23 (.tmp 10) rfl (G) (0) rfl (bvals h1) _ (fun w h => ba_range (t := 23) ((h _ (by have := LN.out; omega)).trans YG.out)) Tryd.underlying23 rfl him) (by assumption) ?_
    simp only [Act.put, List.getElem_toArray, List.getElem_cons_succ, List.getElem_cons_zero, List.setIfInBounds_toArray, List.set_cons_zero, List.set_cons_succ]
    refine wpAnyH_take (i := 6) rfl (by kernel_rfl) (by kernel_rfl) (by kernel_rfl) (fun _ _ _ h => h) (yieldsIf_load_mid (by rfl) 30 (.tmp 7) rfl (A) (0) rfl (sg (-1 - (q : Int)) L) _ (fun w h => sb_all (L := L) ((h _ (by have := LN.out; omega)).trans YA.out)) Tryd.underlying30 rfl (sg_info _ _ LM.out)) (by assumption) ?_
    simp only [Act.put, List.getElem_toArray, List.getElem_cons_succ, List.getElem_cons_zero, List.setIfInBounds_toArray, List.set_cons_zero, List.set_cons_succ]
    refine wpAnyH_ready (rs := [3]) (by kernel_rfl) (by simp) ?_
    refine AllReadyH.cons rfl (fun K hK => ?_) AllReadyH.nil
    go_simp
    go_at_call 13
    refine (C13.out _ (KN.out _ XX.out)).mono ?_
    rintro e wc1 ⟨rfl, hba⟩
    have XN : Hid (Below N wB wc1) := XX.out.trans (hba.mono (by have := XX.out.size; have := WN.out; omega))
    clear XX hba hHeld
    have XX := XN
    clear XN
    (try go_wp2_with fail)
    refine hK.out _ _ (by exact fun q hq => XX.out.block q hq) (fun hHeld => ?_)
    clear hK K
    refine wpAnyH_ready (rs := [7]) (by kernel_rfl) (by simp) ?_
    refine AllReadyH.cons rfl (fun K hK => ?_) AllReadyH.nil
    go_simp
    go_at_call 14
    refine (C14.out _ (KN.out _ XX.out)).mono ?_
    rintro e wc2 ⟨rfl, hba⟩
    have XN : Hid (Below N wB wc2) := XX.out.trans (hba.mono (by have := XX.out.size; have := WN.out; omega))
    clear XX hba hHeld
    have XX := XN
    clear XN
    (try go_wp2_with fail)
    refine hK.out _ _ (by exact fun q hq => XX.out.block q hq) (fun hHeld => ?_)
    clear hK K
    refine wpAnyH_take (i := 8) (v := ?_) rfl (by kernel_rfl) (by kernel_rfl) (by kernel_rfl) (fun _ _ _ h => h) (Or.inl ⟨by rfl, ?_⟩) (by assumption) ?_
    rotate_left
    · (intro w hSw; (try dsimp only at hSw); go_simp; try with_reducible rfl)
    simp only [Act.put, List.getElem_toArray, List.getElem_cons_succ, List.getElem_cons_zero, List.setIfInBounds_toArray, List.set_cons_zero, List.set_cons_succ]
    refine wpAnyH_take (i := 9) (v := ?_) rfl (by kernel_rfl) (by kernel_rfl) (by kernel_rfl) (fun _ _ _ h => h) (Or.inl ⟨by rfl, ?_⟩) (by assumption) ?_
    rotate_left
    · (intro w hSw; (try dsimp only at hSw); go_simp; try with_reducible rfl)
    simp only [Act.put, List.getElem_toArray, List.getElem_cons_succ, List.getElem_cons_zero, List.setIfInBounds_toArray, List.set_cons_zero, List.set_cons_succ]
    refine wpAnyH_done (by kernel_rfl) ?_ _
    go_wp2
    go_ret
    exact ⟨rfl, by rw [HS.out]; exact KN.out _ XX.out⟩
end Go.Proofs.YtkmfmkonejdjiaaDoor
